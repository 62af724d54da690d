package tests

import (
	"slices"

	"loop.example/tideline/impl"
)

// The model of changes works out what there is at each time there is, and lets each of that come and go at that time.

// kinds are the numbers of all kinds of sums.
var kinds = []int{impl.SumCount, impl.SumOnce, impl.SumLeast}

// wantFlowEach is what a way makes of each of ok rows, and whether that is ok.
func wantFlowEach(a []impl.Row, how int) ([]impl.Row, bool) {
	var made []impl.Row
	for _, r := range a {
		if key, val, kept := wantWay(r.Key, r.Val, how); kept {
			made = append(made, row(key, val, r.At.A, r.At.B, r.Diff))
		}
	}
	return wantBatch(made)
}

// wantFlowJoin is all pairs of ok rows, and whether they are ok.
func wantFlowJoin(a []impl.Row, b []impl.Row) ([]impl.Row, bool) {
	var made []impl.Row
	for _, r := range a {
		for _, s := range b {
			if r.Key == s.Key {
				made = append(made, row(r.Key, (r.Val%10*10+s.Val)%vals, max(r.At.A, s.At.A), max(r.At.B, s.At.B), r.Diff*s.Diff))
			}
		}
	}
	return wantBatch(made)
}

// wantFlowTimes is each time that is the join of all the key's times that are not later: just these are joins, of one time or more.
func wantFlowTimes(a []impl.Row, key int) []impl.Time {
	var want []impl.Time
	for _, s := range allTimes() {
		join := at(-1, -1)
		for _, r := range a {
			if r.Key == key && r.At.A <= s.A && r.At.B <= s.B {
				join = at(max(join.A, r.At.A), max(join.B, r.At.B))
			}
		}
		if join == s {
			want = append(want, s)
		}
	}
	return want
}

// wantSum is what a kind of sum makes of ok items.
func wantSum(s []impl.Item, kind int) []impl.Item {
	switch kind {
	case 1:
		return wantCount(s)
	case 2:
		return wantOnce(s)
	default:
		return wantLeast(s)
	}
}

// wantFlowSum is how a sum of ok rows changes, and whether that is ok.
func wantFlowSum(a []impl.Row, kind int) ([]impl.Row, bool) {
	return wantBatch(sumRows(a, kind))
}

// sumRows are rows, not summed up, that say at each time what a kind of sum makes of what is there.
func sumRows(a []impl.Row, kind int) []impl.Row {
	var made []impl.Row
	for _, s := range allTimes() {
		for _, x := range wantSum(wantItems(a, s), kind) {
			made = append(made, onlyAt(x, s)...)
		}
	}
	return made
}

// sizeOf is how many rows are left of rows that are summed up, however many.
func sizeOf(list []impl.Row) int {
	size := 0
	for _, diff := range gridOf(list) {
		if diff != 0 {
			size++
		}
	}
	return size
}

// onlyAt are rows that say of one item that it is there at one time alone: it comes then, goes one later in A, and in B, and has gone once too often at both.
func onlyAt(x impl.Item, s impl.Time) []impl.Row {
	var made []impl.Row
	for a := range 2 {
		for b := range 2 {
			if s.A+a < side && s.B+b < side {
				made = append(made, row(x.Key, x.Val, s.A+a, s.B+b, x.Count*(1-2*a)*(1-2*b)))
			}
		}
	}
	return made
}

// sampleFlows are ok rows with the edges of the document: times neither of which is earlier, whose joins have joins of their own, rows that cancel one another there, or ahead of it, of one key, and of less than nothing at some time.
func sampleFlows() [][]impl.Row {
	return [][]impl.Row{
		{row(0, 1, 0, 2, 1), row(0, 2, 2, 0, 1)},
		{row(0, 1, 0, 2, 1), row(0, 1, 2, 0, 1)},
		{row(0, 1, 0, 2, 1), row(0, 1, 2, 0, -1)},
		{row(0, 1, 0, 2, 1), row(1, 1, 2, 0, 1)},
		{row(0, 1, 0, 2, 1), row(0, 2, 2, 0, 1), row(0, 1, 2, 2, -1), row(0, 2, 2, 2, -1)},
		{row(2, 5, 0, 4, 1), row(2, 5, 2, 2, 1), row(2, 5, 4, 0, 1)},
		{row(2, 5, 0, 4, 3), row(2, 6, 2, 2, 2), row(2, 7, 4, 0, 1)},
		{row(2, 7, 0, 4, 3), row(2, 6, 2, 2, -2), row(2, 5, 4, 0, 1), row(2, 6, 4, 4, 3)},
		{row(2, 5, 1, 6, 1), row(2, 5, 3, 3, -2), row(2, 5, 6, 1, 2)},
		{row(1, 5, 0, 7, 1), row(1, 4, 1, 6, 1), row(1, 3, 2, 5, 1), row(1, 2, 3, 4, 1), row(1, 1, 4, 3, 1), row(1, 0, 5, 2, 1), row(1, 9, 6, 1, 1), row(1, 8, 7, 0, 1)},
		{row(3, 9, 1, 1, 1), row(3, 9, 1, 1, -1)},
		{row(3, 9, 1, 1, 0), row(3, 8, 0, 3, 1), row(3, 7, 3, 0, 1)},
		{row(3, 9, 0, 0, -2), row(3, 9, 1, 0, 1), row(3, 9, 0, 1, 1), row(3, 9, 1, 1, 1)},
		{row(3, 9, 0, 0, 2), row(3, 9, 1, 0, -3), row(3, 9, 0, 1, -3), row(3, 9, 2, 2, 5), row(3, 1, 0, 0, -1)},
		{row(1, 5, 3, 3, 33333), row(1, 6, 3, 3, -3)},
		{row(1, 5, 3, 3, 3), row(1, 6, 3, 3, 1)},
		{row(0, 99, 7, 7, diffMost), row(3, 0, 0, 0, -diffMost)},
		slices.Repeat([]impl.Row{row(1, 5, 3, 3, diffMost), row(1, 5, 3, 3, -diffMost)}, rowsMost/2),
	}
}

// flowLists are all ok rows that the tests of changes ask of.
func flowLists() [][]impl.Row {
	lists := slices.Concat(sampleFlows(), rowLists())
	s := steps(11)
	for _, k := range []kind{{1, 2, 3, 1}, {1, 4, 8, 2}, {2, 12, 8, 2}, {4, 100, 8, 60}} {
		for _, size := range []int{2, 3, 4, 7, 15} {
			for range 4 {
				lists = append(lists, s.rows(k, size))
			}
		}
	}
	return lists
}

// smallFlows are such of the rows as are not many, for what is asked of two lists and of fronts.
func smallFlows() [][]impl.Row {
	return slices.DeleteFunc(flowLists(), func(a []impl.Row) bool { return len(a) > 20 })
}

// squareRows are rows of a key whose count is another one at each time up to so many in A and B, though rows come in only where A or B is 0.
func squareRows(key int, wide int, high int) []impl.Row {
	list := []impl.Row{row(key, 7, 0, 0, 1)}
	for a := 1; a < wide; a++ {
		list = append(list, row(key, 7, a, 0, side))
	}
	for b := 1; b < high; b++ {
		list = append(list, row(key, 7, 0, b, 1))
	}
	return list
}

// slopeRows are so many rows of a key, one at each time, by A, then B, the values of which go down, so that the least is another one at each time.
func slopeRows(key int, n int) []impl.Row {
	var list []impl.Row
	for i, s := range allTimes()[:n] {
		list = append(list, row(key, vals-1-i, s.A, s.B, 1))
	}
	return list
}

// forkRows are rows of so many values, of each one two, at times neither of which is earlier.
func forkRows(n int) []impl.Row {
	var list []impl.Row
	for place := range n {
		list = append(list, row(place/vals, place%vals, 1, 2, 1), row(place/vals, place%vals, 2, 1, 1))
	}
	return list
}

// crossRows are two lists of 20 rows of one key that make as many pairs as can be.
func crossRows() ([]impl.Row, []impl.Row) {
	var a, b []impl.Row
	for val := range 10 {
		a = append(a, row(2, val, 0, 0, 1), row(2, val, 1, 0, 1))
		b = append(b, row(2, val, 0, 0, -1), row(2, val, 0, 1, -1))
	}
	return a, b
}
