package tests

import (
	"maps"
	"math"
	"slices"

	"loop.example/tideline/impl"
)

// The model of batches is a number for each place, of which each key, value and time there is has one, in order.

const (
	keys     = 4
	vals     = 100
	diffMost = 99999
	rowsMost = 400
)

func gridOf(lists ...[]impl.Row) map[int]int {
	g := map[int]int{}
	for _, list := range lists {
		for _, r := range list {
			g[(r.Key*vals+r.Val)*count+placeOf(r.At)] += r.Diff
		}
	}
	return g
}

// rowAt is a row of the key, value and time that have a place.
func rowAt(place int, diff int) impl.Row {
	return row(place/(vals*count), place/count%vals, place/side%side, place%side, diff)
}

// wantBatch is what ok rows, all together, are summed up to, and whether that is ok.
func wantBatch(lists ...[]impl.Row) ([]impl.Row, bool) {
	var want []impl.Row
	ok := true
	g := gridOf(lists...)
	for _, place := range slices.Sorted(maps.Keys(g)) {
		diff := g[place]
		if diff != 0 {
			want = append(want, rowAt(place, diff))
		}
		ok = ok && diff >= -diffMost && diff <= diffMost
	}
	if !ok || len(want) > rowsMost {
		return nil, false
	}
	return want, true
}

// wantItems is what there is of ok rows at an ok time.
func wantItems(list []impl.Row, s impl.Time) []impl.Item {
	var counts [keys][vals]int
	for _, r := range list {
		if r.At.A <= s.A && r.At.B <= s.B {
			counts[r.Key][r.Val] += r.Diff
		}
	}
	var want []impl.Item
	for key := range keys {
		for val := range vals {
			if n := counts[key][val]; n != 0 {
				want = append(want, impl.Item{Key: key, Val: val, Count: n})
			}
		}
	}
	return want
}

// wantMoved are rows with each At moved: to the least A and B, one by one, of its joins with the front.
func wantMoved(list []impl.Row, f []impl.Time) []impl.Row {
	moved := slices.Clone(list)
	for i, r := range list {
		if len(f) == 0 {
			continue
		}
		a, b := side, side
		for _, s := range f {
			a, b = min(a, max(r.At.A, s.A)), min(b, max(r.At.B, s.B))
		}
		moved[i].At = at(a, b)
	}
	return moved
}

func wantLess(list []impl.Row) []impl.Row {
	less := slices.Clone(list)
	for i := range less {
		less[i].Diff *= -1
	}
	return less
}

func row(key int, val int, a int, b int, diff int) impl.Row {
	return impl.Row{Key: key, Val: val, At: at(a, b), Diff: diff}
}

func item(key int, val int, n int) impl.Item {
	return impl.Item{Key: key, Val: val, Count: n}
}

// manyRows are so many rows in order, no two of one key, value and time, from the first there is on.
func manyRows(n int, diff int) []impl.Row {
	var many []impl.Row
	for place := range n {
		many = append(many, rowAt(place, diff))
	}
	return many
}

// edgeRows are ok rows with one number at a limit, and one with all of them.
func edgeRows() []impl.Row {
	return []impl.Row{
		row(0, 5, 3, 3, 1), row(3, 5, 3, 3, 1),
		row(1, 0, 3, 3, 1), row(1, 99, 3, 3, 1),
		row(1, 5, 0, 3, 1), row(1, 5, 7, 3, 1),
		row(1, 5, 3, 0, 1), row(1, 5, 3, 7, 1),
		row(1, 5, 3, 3, 99999), row(1, 5, 3, 3, -99999), row(1, 5, 3, 3, 0),
		row(0, 0, 0, 0, -99999), row(3, 99, 7, 7, 99999),
	}
}

// badRows are rows with one number out of bounds, by as little and by as much as can be.
func badRows() []impl.Row {
	var bad []impl.Row
	for _, n := range []int{-1, keys, math.MinInt, math.MaxInt} {
		bad = append(bad, row(n, 5, 3, 3, 1))
	}
	for _, n := range []int{-1, vals, math.MinInt, math.MaxInt} {
		bad = append(bad, row(1, n, 3, 3, 1))
	}
	for _, n := range []int{-diffMost - 1, diffMost + 1, math.MinInt, math.MaxInt} {
		bad = append(bad, row(1, 5, 3, 3, n))
	}
	for _, s := range badTimes() {
		bad = append(bad, impl.Row{Key: 1, Val: 5, At: s, Diff: 1})
	}
	return bad
}

// badLists are rows that are not ok, each bad row at some place of good ones, or where a sum would hide it, and too many rows.
func badLists() [][]impl.Row {
	var lists [][]impl.Row
	good := []impl.Row{row(0, 1, 1, 3, 2), row(1, 5, 3, 3, 1), row(3, 0, 2, 2, -4)}
	for _, bad := range badRows() {
		lists = append(lists, []impl.Row{bad})
		for place := range len(good) + 1 {
			lists = append(lists, slices.Insert(slices.Clone(good), place, bad))
		}
		none, back := bad, bad
		none.Diff, back.Diff = 0, -bad.Diff
		lists = append(lists, append([]impl.Row{bad, back}, good...))
		if bad.Diff == 1 {
			lists = append(lists, append([]impl.Row{none}, good...))
		}
	}
	full := manyRows(rowsMost, 1)
	return append(lists,
		[]impl.Row{row(0, 0, 0, 0, diffMost+1), row(0, 0, 0, 0, -1)},
		manyRows(rowsMost+1, 1),
		manyRows(rowsMost+1, 0),
		append(full, row(0, 0, 0, 0, -1)),
		slices.Repeat([]impl.Row{row(0, 0, 0, 0, 1)}, rowsMost+1),
		manyRows(3*rowsMost, 1))
}

// steps tells numbers that seem to be in no order, the same ones in every run.
type steps uint32

func (s *steps) below(n int) int {
	*s = *s*1664525 + 1013904223
	high := uint64(*s >> 16)
	*s = *s*1664525 + 1013904223
	return int((high<<16 | uint64(*s>>16)) % uint64(n))
}

// kind is from how many keys, values and numbers of a time rows are taken, and how great a Diff is at most.
type kind struct{ keys, vals, times, diff int }

func (s *steps) rows(k kind, size int) []impl.Row {
	var list []impl.Row
	for range size {
		diff := s.below(2*k.diff+1) - k.diff
		list = append(list, row(s.below(k.keys), s.below(k.vals), s.below(k.times), s.below(k.times), diff))
	}
	return list
}

// rowLists are ok rows of many lengths, in no order: few that are apart, so that they come together and cancel one another, many, and some that are too much together.
func rowLists() [][]impl.Row {
	lists := [][]impl.Row{nil, {}, edgeRows(), manyRows(rowsMost, 1), manyRows(rowsMost, -diffMost)}
	s := steps(2)
	for _, k := range []kind{{1, 1, 2, 1}, {2, 2, 2, 1}, {2, 3, 4, 2}, {4, 100, 8, 99999}, {4, 4, 8, 3}, {1, 2, 2, 50000}, {4, 10, 8, 40000}} {
		for _, size := range []int{1, 2, 3, 4, 5, 6, 8, 12, 20, 40, 90} {
			for range 3 {
				lists = append(lists, s.rows(k, size))
			}
		}
		lists = append(lists, s.rows(k, rowsMost-1), s.rows(k, rowsMost))
	}
	return lists
}

// fewFronts are some six of each length there is, far apart, or the one there is.
func fewFronts() [][]impl.Time {
	var byLength [side + 1][][]impl.Time
	for _, f := range allFronts() {
		byLength[len(f)] = append(byLength[len(f)], f)
	}
	var few [][]impl.Time
	for _, fronts := range byLength {
		for i := 0; i < len(fronts); i += len(fronts)/6 + 1 {
			few = append(few, fronts[i])
		}
	}
	return few
}
