// Package impl: what changes, by times that are partly ordered.
package impl

import (
	"cmp"
	"slices"
)

// TimeMax is the greatest number of a time.
const TimeMax = 7

// Time is two numbers; a time is not later than another one, if neither of its numbers is greater.
type Time struct {
	A int
	B int
}

// numbers are a time's two numbers as an array, so that what holds of each is said once.
type numbers [2]int

func numbersOf(t Time) numbers {
	return numbers{t.A, t.B}
}

func timeOf(n numbers) Time {
	return Time{A: n[0], B: n[1]}
}

// TimeOk says whether a time is ok.
func TimeOk(t Time) bool {
	for _, n := range numbersOf(t) {
		if n < 0 || n > TimeMax {
			return false
		}
	}
	return true
}

// TimeLess says whether a time is not later than another one.
func TimeLess(s Time, t Time) bool {
	if !TimeOk(s) || !TimeOk(t) {
		return false
	}
	m, n := numbersOf(s), numbersOf(t)
	for i := range m {
		if m[i] > n[i] {
			return false
		}
	}
	return true
}

// TimeJoin is the first time that is not earlier than both.
func TimeJoin(s Time, t Time) Time {
	if !TimeOk(s) || !TimeOk(t) {
		return Time{}
	}
	m, n := numbersOf(s), numbersOf(t)
	for i := range m {
		m[i] = max(m[i], n[i])
	}
	return timeOf(m)
}

// TimeMeet is the last time that is not later than both.
func TimeMeet(s Time, t Time) Time {
	if !TimeOk(s) || !TimeOk(t) {
		return Time{}
	}
	m, n := numbersOf(s), numbersOf(t)
	for i := range m {
		m[i] = min(m[i], n[i])
	}
	return timeOf(m)
}

// FrontOk says whether times are a front: none not later than another one, in order.
func FrontOk(f []Time) bool {
	for i, t := range f {
		if !TimeOk(t) {
			return false
		}
		// Neighbours are enough: where A goes up and B goes down all along, no two are not later, either way.
		if i > 0 && (f[i-1].A >= t.A || f[i-1].B <= t.B) {
			return false
		}
	}
	return true
}

// FrontOf is the front of times: those than which no other one is earlier, each once.
func FrontOf(list []Time) []Time {
	for _, t := range list {
		if !TimeOk(t) {
			return nil
		}
	}
	front := earliest(list, TimeLess)
	slices.SortFunc(front, func(s Time, t Time) int { return cmp.Compare(s.A, t.A) })
	return front
}

// FrontCovers says whether a time is at a front, or behind it.
func FrontCovers(f []Time, t Time) bool {
	return FrontOk(f) && reaches(f, t, TimeLess)
}

// FrontMove is the last time that says the same of all times at a front, or behind it.
func FrontMove(f []Time, t Time) Time {
	if !FrontOk(f) || !TimeOk(t) {
		return Time{}
	}
	if len(f) == 0 {
		return t
	}
	moved := TimeJoin(t, f[0])
	for _, s := range f[1:] {
		moved = TimeMeet(moved, TimeJoin(t, s))
	}
	return moved
}

// FrontBoth is the front of times that are at, or behind, both fronts.
func FrontBoth(f []Time, g []Time) []Time {
	if !FrontOk(f) || !FrontOk(g) {
		return nil
	}
	var joins []Time
	for _, s := range f {
		for _, t := range g {
			joins = append(joins, TimeJoin(s, t))
		}
	}
	return FrontOf(joins)
}

// earliest keeps, by the order that is handed on, those of a list than which no other one is earlier, each once, in new memory.
func earliest[T any](list []T, notLater func(T, T) bool) []T {
	var kept []T
	for _, x := range list {
		if reaches(kept, x, notLater) {
			continue
		}
		kept = slices.DeleteFunc(kept, func(k T) bool { return notLater(x, k) })
		kept = append(kept, x)
	}
	return kept
}

// reaches says whether, by the order that is handed on, one of a list is not later than x.
func reaches[T any](list []T, x T, notLater func(T, T) bool) bool {
	return slices.ContainsFunc(list, func(k T) bool { return notLater(k, x) })
}
