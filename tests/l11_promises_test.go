package tests

import (
	"slices"
	"testing"

	"loop.example/tideline/impl"
)

// What is too much together is nothing, and says nothing: the promises on changes are of such as are not, and the tests count these.
func TestPromise36FlowEachSumsUpToSetEach(t *testing.T) {
	for _, how := range ways {
		told := 0
		for _, a := range flowLists() {
			if _, ok := wantFlowEach(a, how); !ok {
				continue
			}
			told++
			made := impl.FlowEach(a, how)
			for _, s := range allTimes() {
				got := impl.BatchAt(made, s)
				if want := impl.SetEach(impl.BatchAt(a, s), how); !slices.Equal(got, want) || !slices.Equal(got, wantEach(wantItems(a, s), how)) {
					t.Fatalf("FlowEach of %s by %d says %s at %s, not %s", some(a), how, some(got), tell(s), some(want))
				}
			}
		}
		if told < 200 {
			t.Errorf("by %d only %d are not too much", how, told)
		}
	}
}

func TestPromise37FlowJoinSumsUpToSetJoin(t *testing.T) {
	lists := flowLists()
	told := 0
	for i, a := range lists {
		for _, b := range partners(lists, i) {
			if _, ok := wantFlowJoin(a, b); !ok {
				continue
			}
			told++
			made := impl.FlowJoin(a, b)
			for _, s := range allTimes() {
				got := impl.BatchAt(made, s)
				if want := impl.SetJoin(impl.BatchAt(a, s), impl.BatchAt(b, s)); !slices.Equal(got, want) {
					t.Fatalf("FlowJoin of %s and %s says %s at %s, not %s", some(a), some(b), some(got), tell(s), some(want))
				}
			}
		}
	}
	if told < 800 {
		t.Errorf("only %d are not too much", told)
	}
}

// sumAt is what a kind of sum makes of items, by the program.
func sumAt(s []impl.Item, kind int) []impl.Item {
	switch kind {
	case impl.SumCount:
		return impl.SetCount(s)
	case impl.SumOnce:
		return impl.SetOnce(s)
	default:
		return impl.SetLeast(s)
	}
}

func TestPromise38FlowSumSumsUpToTheSum(t *testing.T) {
	for _, kind := range kinds {
		told := 0
		for _, a := range flowLists() {
			if _, ok := wantFlowSum(a, kind); !ok {
				continue
			}
			told++
			made := impl.FlowSum(a, kind)
			for _, s := range allTimes() {
				got := impl.BatchAt(made, s)
				if want := sumAt(impl.BatchAt(a, s), kind); !slices.Equal(got, want) || !slices.Equal(got, wantSum(wantItems(a, s), kind)) {
					t.Fatalf("FlowSum of %s of kind %d says %s at %s, not %s", some(a), kind, some(got), tell(s), some(want))
				}
			}
		}
		if told < 250 {
			t.Errorf("of kind %d only %d are not too much", kind, told)
		}
	}
}

func TestPromise39FlowTimesHasAllTimesOfTheKeysRowsAndAllJoins(t *testing.T) {
	joins := 0
	for _, a := range flowLists() {
		for key := range keys {
			times := impl.FlowTimes(a, key)
			for _, r := range a {
				if r.Key == key && !slices.Contains(times, r.At) {
					t.Fatalf("FlowTimes of %s of %d lacks %s", some(a), key, tell(r.At))
				}
			}
			for i, s := range times {
				for _, u := range times[:i] {
					if join := impl.TimeJoin(s, u); !slices.Contains(times, join) {
						t.Fatalf("FlowTimes of %s of %d lacks %s, the join of %s and %s", some(a), key, tell(join), tell(s), tell(u))
					}
				}
				if i > 0 && (times[i-1].A > s.A || times[i-1].A == s.A && times[i-1].B >= s.B) {
					t.Fatalf("FlowTimes of %s of %d is out of order: %v", some(a), key, times)
				}
				if !slices.ContainsFunc(a, func(r impl.Row) bool { return r.Key == key && r.At == s }) {
					joins++
				}
			}
			if !slices.Equal(times, wantFlowTimes(a, key)) {
				t.Fatalf("FlowTimes of %s of %d is %v", some(a), key, times)
			}
		}
	}
	if joins < 500 {
		t.Errorf("only %d times are joins alone", joins)
	}
}

func TestPromise39OfEachThreeTimes(t *testing.T) {
	all := allTimes()
	for i, s := range all {
		for j, u := range all[:i] {
			for k := i % 5; k < j; k += 5 {
				v := all[k]
				a := []impl.Row{row(1, 5, u.A, u.B, 1), row(1, 6, s.A, s.B, -1), row(0, 5, 3, 3, 1), row(1, 5, v.A, v.B, 2)}
				if got := impl.FlowTimes(a, 1); !slices.Equal(got, wantFlowTimes(a, 1)) {
					t.Fatalf("FlowTimes of %v is %v", a, got)
				}
			}
		}
	}
}

func TestPromise40FlowSumChangesAtTimesOfFlowTimesAlone(t *testing.T) {
	changed := 0
	for _, a := range flowLists() {
		for _, kind := range kinds {
			for _, r := range impl.FlowSum(a, kind) {
				changed++
				if !slices.Contains(impl.FlowTimes(a, r.Key), r.At) {
					t.Fatalf("FlowSum of %s of kind %d has %v", some(a), kind, r)
				}
			}
		}
	}
	if changed < 5000 {
		t.Errorf("only %d changes", changed)
	}
}

func TestPromise41FlowJoinOfTwoTogetherIsBothTogether(t *testing.T) {
	lists := smallFlows()
	told := 0
	for i, a := range lists {
		for j, b := range partners(lists, i) {
			c := lists[(i*13+j*29+1)%len(lists)]
			if _, ok := wantBatch(a, b); !ok {
				continue
			}
			both := impl.BatchBoth(a, b)
			_, okA := wantFlowJoin(a, c)
			_, okB := wantFlowJoin(b, c)
			if okA && okB {
				together := impl.FlowJoin(both, c)
				if each := impl.BatchBoth(impl.FlowJoin(a, c), impl.FlowJoin(b, c)); !slices.Equal(together, each) {
					t.Fatalf("%s and %s with %s: %s together, %s each", some(a), some(b), some(c), some(together), some(each))
				}
				if len(together) > 0 {
					told++
				}
			}
			_, okA = wantFlowJoin(c, a)
			_, okB = wantFlowJoin(c, b)
			if okA && okB {
				together := impl.FlowJoin(c, both)
				if each := impl.BatchBoth(impl.FlowJoin(c, a), impl.FlowJoin(c, b)); !slices.Equal(together, each) {
					t.Fatalf("%s with %s and %s: %s together, %s each", some(c), some(a), some(b), some(together), some(each))
				}
				if len(together) > 0 {
					told++
				}
			}
		}
	}
	if told < 800 {
		t.Errorf("only %d have pairs", told)
	}
}

func TestPromise42FlowEachOfTwoTogetherIsBothTogether(t *testing.T) {
	lists := flowLists()
	for _, how := range ways {
		told := 0
		for i, a := range lists {
			for _, b := range partners(lists, i) {
				_, ok := wantBatch(a, b)
				_, okA := wantFlowEach(a, how)
				_, okB := wantFlowEach(b, how)
				if !ok || !okA || !okB {
					continue
				}
				together := impl.FlowEach(impl.BatchBoth(a, b), how)
				if each := impl.BatchBoth(impl.FlowEach(a, how), impl.FlowEach(b, how)); !slices.Equal(together, each) {
					t.Fatalf("%s and %s by %d: %s together, %s each", some(a), some(b), how, some(together), some(each))
				}
				if len(together) > 0 {
					told++
				}
			}
		}
		if told < 500 {
			t.Errorf("by %d there is something of %d alone", how, told)
		}
	}
}

func TestPromise43FlowJoinChangesAtJoinsOfBothTimesAlone(t *testing.T) {
	lists := flowLists()
	changed := 0
	for i, a := range lists {
		for _, b := range partners(lists, i) {
			made := impl.FlowJoin(a, b)
			if len(made) == 0 {
				continue
			}
			// A set of times is one uint64, as in the model of times.
			var joins [keys]uint64
			for _, r := range a {
				for _, s := range b {
					if r.Key == s.Key {
						joins[r.Key] |= 1 << placeOf(at(max(r.At.A, s.At.A), max(r.At.B, s.At.B)))
					}
				}
			}
			for _, r := range made {
				changed++
				if !holds(joins[r.Key], r.At) {
					t.Fatalf("FlowJoin of %s and %s has %v", some(a), some(b), r)
				}
			}
		}
	}
	if changed < 5000 {
		t.Errorf("only %d changes", changed)
	}
}

// sameBehind tells whether two batches say the same of all times at a front, or behind it, and where not.
func sameBehind(ups [count]uint64, f []impl.Time, a []impl.Row, b []impl.Row) (impl.Time, bool) {
	if slices.Equal(a, b) {
		return impl.Time{}, true
	}
	cover := coverOf(ups, f)
	for _, s := range allTimes() {
		if holds(cover, s) && !slices.Equal(impl.BatchAt(a, s), impl.BatchAt(b, s)) {
			return s, false
		}
	}
	return impl.Time{}, true
}

// movedBatches are ok rows with what they are moved to by some fronts, none, one time and more among them, where that is not too much.
func movedBatches(a []impl.Row, fronts [][]impl.Time) ([][]impl.Time, [][]impl.Row) {
	var by [][]impl.Time
	var moved [][]impl.Row
	for _, f := range fronts {
		if _, ok := wantBatch(wantMoved(a, f)); ok {
			by, moved = append(by, f), append(moved, impl.BatchMove(a, f))
		}
	}
	return by, moved
}

// movedFlows are the rows of which the promises on moved rows are asked, as many as can be among them.
func movedFlows() [][]impl.Row {
	return append(smallFlows(), manyRows(rowsMost, 1), forkRows(rowsMost/4), slopeRows(2, count), squareRows(1, side, side))
}

func TestPromise44FlowEachOfMovedRowsSaysTheSame(t *testing.T) {
	ups, fronts := upsets(), fewFronts()
	told := 0
	for _, a := range movedFlows() {
		by, moved := movedBatches(a, fronts)
		for _, how := range ways {
			if _, ok := wantFlowEach(a, how); !ok {
				continue
			}
			made := impl.FlowEach(a, how)
			for i, f := range by {
				if _, ok := wantFlowEach(moved[i], how); !ok {
					continue
				}
				told++
				got := impl.FlowEach(moved[i], how)
				if s, same := sameBehind(ups, f, got, made); !same {
					t.Fatalf("FlowEach of %s by %d, moved by %v, is %s: something else at %s", some(a), how, f, some(got), tell(s))
				}
				if len(f) == 0 && !slices.Equal(got, made) {
					t.Fatalf("FlowEach of %s by %d, moved to no time, is %s", some(a), how, some(got))
				}
			}
		}
	}
	if told < 10000 {
		t.Errorf("only %d are not too much", told)
	}
}

func TestPromise44FlowJoinOfMovedRowsSaysTheSame(t *testing.T) {
	ups, fronts := upsets(), fewFronts()
	lists := movedFlows()
	told := 0
	for i, a := range lists {
		b := lists[(i*31+5)%len(lists)]
		if _, ok := wantFlowJoin(a, b); !ok {
			continue
		}
		made := impl.FlowJoin(a, b)
		by, moved := movedBatches(a, fronts)
		for i, f := range by {
			if _, ok := wantBatch(wantMoved(b, f)); !ok {
				continue
			}
			other := impl.BatchMove(b, f)
			for _, two := range [][2][]impl.Row{{moved[i], other}, {moved[i], b}, {a, other}} {
				if _, ok := wantFlowJoin(two[0], two[1]); !ok {
					continue
				}
				told++
				got := impl.FlowJoin(two[0], two[1])
				if s, same := sameBehind(ups, f, got, made); !same {
					t.Fatalf("FlowJoin of %s and %s, moved by %v, is %s: something else at %s", some(a), some(b), f, some(got), tell(s))
				}
				if len(f) == 0 && !slices.Equal(got, made) {
					t.Fatalf("FlowJoin of %s and %s, moved to no time, is %s", some(a), some(b), some(got))
				}
			}
		}
	}
	if told < 10000 {
		t.Errorf("only %d are not too much", told)
	}
}

func TestPromise45FlowSumOfMovedRowsSaysTheSame(t *testing.T) {
	ups, fronts := upsets(), fewFronts()
	told := 0
	for _, a := range movedFlows() {
		by, moved := movedBatches(a, fronts)
		for _, kind := range kinds {
			if _, ok := wantFlowSum(a, kind); !ok {
				continue
			}
			made := impl.FlowSum(a, kind)
			for i, f := range by {
				got := impl.FlowSum(moved[i], kind)
				// The model is slow, and has something to say only where nothing is told.
				if len(got) == 0 && len(made) > 0 {
					if _, ok := wantFlowSum(moved[i], kind); !ok {
						continue
					}
				}
				told++
				if s, same := sameBehind(ups, f, got, made); !same {
					t.Fatalf("FlowSum of %s of kind %d, moved by %v, is %s: something else at %s", some(a), kind, f, some(got), tell(s))
				}
				if len(f) == 0 && !slices.Equal(got, made) {
					t.Fatalf("FlowSum of %s of kind %d, moved to no time, is %s", some(a), kind, some(got))
				}
			}
		}
	}
	if told < 10000 {
		t.Errorf("only %d are asked", told)
	}
}

func TestPromise46OnceOfOnceIsOnce(t *testing.T) {
	told := 0
	for _, a := range flowLists() {
		once, least := impl.FlowSum(a, impl.SumOnce), impl.FlowSum(a, impl.SumLeast)
		if _, ok := wantFlowSum(a, impl.SumOnce); ok {
			told++
			if got := impl.FlowSum(once, impl.SumOnce); !slices.Equal(got, once) {
				t.Fatalf("once of once of %s is %s", some(a), some(got))
			}
			if got := impl.FlowSum(once, impl.SumLeast); !slices.Equal(got, least) {
				t.Fatalf("the least of once of %s is %s, not %s", some(a), some(got), some(least))
			}
		}
		if got := impl.FlowSum(least, impl.SumLeast); !slices.Equal(got, least) {
			t.Fatalf("the least of the least of %s is %s", some(a), some(got))
		}
		if got := impl.FlowSum(least, impl.SumOnce); !slices.Equal(got, least) {
			t.Fatalf("once of the least of %s is %s", some(a), some(got))
		}
	}
	if told < 250 {
		t.Errorf("only %d are not too much", told)
	}
}

func TestPromise47OfNothingNothingIsMade(t *testing.T) {
	gone := []impl.Row{row(1, 5, 0, 2, 3), row(1, 6, 2, 0, 1), row(1, 5, 0, 2, -3), row(1, 6, 2, 0, -1), row(2, 6, 2, 0, 0)}
	for _, none := range [][]impl.Row{nil, {}, gone, gone[4:]} {
		for _, a := range flowLists() {
			for name, maker := range flowMakers(a) {
				if got := maker(none); len(got) != 0 {
					t.Errorf("%s of %v and %s is %s", name, none, some(a), some(got))
				}
			}
		}
	}
	for key := -1; key <= keys; key++ {
		if len(impl.FlowTimes(nil, key)) != 0 || len(impl.FlowTimes([]impl.Row{}, key)) != 0 {
			t.Errorf("FlowTimes of nothing of %d", key)
		}
	}
}

func TestPromise48WhatIsMadeOfChangesIsABatch(t *testing.T) {
	lists := append(flowLists(), badLists()...)
	for i, a := range lists {
		for _, b := range partners(lists, i)[1:3] {
			for name, maker := range flowMakers(b) {
				if got := maker(a); !impl.BatchOk(got) {
					t.Fatalf("%s of %s and %s is %s", name, some(a), some(b), some(got))
				}
			}
		}
	}
}
