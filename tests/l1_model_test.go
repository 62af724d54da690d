package tests

import (
	"fmt"
	"math"
	"math/bits"
	"slices"

	"loop.example/tideline/impl"
)

// The tests hold the program against a model that shares no code with it: there are 64 ok times, so any set of them is one uint64.

const (
	side  = 8
	count = side * side
)

func at(a int, b int) impl.Time {
	return impl.Time{A: a, B: b}
}

func tell(t impl.Time) string {
	return fmt.Sprintf("%d,%d", t.A, t.B)
}

func placeOf(t impl.Time) int {
	return t.A*side + t.B
}

// allTimes is every ok time, by A, then B.
func allTimes() []impl.Time {
	var all []impl.Time
	for a := range side {
		for b := range side {
			all = append(all, at(a, b))
		}
	}
	return all
}

// badTimes are times of which one number, or both, are out of bounds, by as little and by as much as can be.
func badTimes() []impl.Time {
	bad := []int{-1, side, math.MinInt, math.MaxInt}
	var all []impl.Time
	for _, n := range bad {
		for _, good := range []int{0, 3, side - 1} {
			all = append(all, at(n, good), at(good, n))
		}
		for _, m := range bad {
			all = append(all, at(n, m))
		}
	}
	return all
}

// upsets tells of each time the set of those than which it is not later.
func upsets() [count]uint64 {
	var ups [count]uint64
	for _, s := range allTimes() {
		for _, t := range allTimes() {
			if s.A <= t.A && s.B <= t.B {
				ups[placeOf(s)] |= 1 << placeOf(t)
			}
		}
	}
	return ups
}

func coverOf(ups [count]uint64, list []impl.Time) uint64 {
	var cover uint64
	for _, t := range list {
		cover |= ups[placeOf(t)]
	}
	return cover
}

func holds(set uint64, t impl.Time) bool {
	return set>>placeOf(t)&1 == 1
}

// firstsOf is the front whose cover this is: those of it that are behind no other of it, A ascending.
func firstsOf(ups [count]uint64, cover uint64) []impl.Time {
	var firsts []impl.Time
	for _, t := range allTimes() {
		if !holds(cover, t) {
			continue
		}
		notLater := 0 // t itself is one of them
		for rest := cover; rest != 0; rest &= rest - 1 {
			if holds(ups[bits.TrailingZeros64(rest)], t) {
				notLater++
			}
		}
		if notLater == 1 {
			firsts = append(firsts, t)
		}
	}
	return firsts
}

// allFronts is every front there is, the empty one first: A ascending, B descending.
func allFronts() [][]impl.Time {
	var all [][]impl.Time
	var grow func(front []impl.Time, a int, below int)
	grow = func(front []impl.Time, a int, below int) {
		all = append(all, slices.Clone(front))
		for ; a < side; a++ {
			for b := range below {
				grow(append(front, at(a, b)), a+1, b)
			}
		}
	}
	grow(nil, 0, side)
	return all
}

// someFronts are the empty front, each front of one time, the one of as many times as can be, and some between.
func someFronts() [][]impl.Time {
	var some [][]impl.Time
	for i, f := range allFronts() {
		if len(f) < 2 || len(f) == side || i%211 == 0 {
			some = append(some, f)
		}
	}
	return some
}

// badFronts are lists that are no front, and why.
func badFronts() map[string][]impl.Time {
	bad := map[string][]impl.Time{
		"out of order":               {at(3, 1), at(1, 3)},
		"out of order at the end":    {at(1, 5), at(3, 3), at(2, 1)},
		"the same twice":             {at(2, 2), at(2, 2)},
		"the same A":                 {at(2, 3), at(2, 1)},
		"the same B":                 {at(1, 3), at(2, 3)},
		"the first earlier":          {at(1, 1), at(2, 2)},
		"the last two not a front":   {at(0, 7), at(1, 1), at(2, 2)},
		"the last behind the first":  {at(0, 3), at(1, 1), at(2, 4)},
		"one more than can be":       {at(0, 7), at(1, 6), at(2, 5), at(3, 4), at(4, 3), at(5, 2), at(6, 1), at(7, 0), at(8, -1)},
		"a wrong one among good":     {at(1, 6), at(3, 8), at(5, 2)},
		"a wrong one in good order":  {at(-1, 7), at(1, 3)},
		"a wrong one, B below, last": {at(1, 3), at(3, -1)},
	}
	for _, t := range badTimes() {
		bad["one wrong time "+tell(t)] = []impl.Time{t}
	}
	return bad
}

// mixedLists are lists of ok times of many lengths, in no order, with times that stand twice, the same ones in every run.
func mixedLists() [][]impl.Time {
	lists := [][]impl.Time{nil, {}}
	seed := uint32(1)
	next := func(below uint32) int {
		seed = seed*1664525 + 1013904223
		return int((seed >> 16) % below)
	}
	for size := 1; size <= 40; size++ {
		for range 50 {
			var list []impl.Time
			for range size {
				list = append(list, at(next(side), next(side)))
			}
			list = append(list, list[next(uint32(size))])
			lists = append(lists, list)
		}
	}
	return lists
}
