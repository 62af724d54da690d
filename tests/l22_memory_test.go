package tests

import (
	"slices"
	"testing"

	"loop.example/tideline/impl"
)

// flowOf is what LoopFlow makes, without whether it does.
func flowOf(ties []impl.Row, first []impl.Row, rounds int) []impl.Row {
	made, _ := impl.LoopFlow(ties, first, rounds)
	return made
}

// itemLooper and rowLooper are all that go round, with one and another list in each place.
type (
	itemLooper func(s []impl.Item, other []impl.Item) []impl.Item
	rowLooper  func(a []impl.Row, other []impl.Row) []impl.Row
)

func itemLoopers() map[string]itemLooper {
	return map[string]itemLooper{
		"LoopStep, ties":               func(s []impl.Item, other []impl.Item) []impl.Item { return impl.LoopStep(s, other, keysOf(0, 1, 2, 3)) },
		"LoopStep, first":              func(s []impl.Item, other []impl.Item) []impl.Item { return impl.LoopStep(other, s, keysOf(0, 3)) },
		"LoopStep, now":                func(s []impl.Item, other []impl.Item) []impl.Item { return impl.LoopStep(other, nil, s) },
		"LoopStep, first without ties": func(s []impl.Item, other []impl.Item) []impl.Item { return impl.LoopStep(nil, s, other) },
		"LoopStep, first alone":        func(s []impl.Item, other []impl.Item) []impl.Item { return impl.LoopStep(nil, s, nil) },
		"LoopStep, all":                func(s []impl.Item, other []impl.Item) []impl.Item { return impl.LoopStep(s, s, s) },
		"LoopSet, ties":                func(s []impl.Item, other []impl.Item) []impl.Item { return impl.LoopSet(s, other, 3) },
		"LoopSet, ties, all rounds":    func(s []impl.Item, other []impl.Item) []impl.Item { return impl.LoopSet(s, keysOf(0), 6) },
		"LoopSet, first":               func(s []impl.Item, other []impl.Item) []impl.Item { return impl.LoopSet(other, s, 2) },
		"LoopSet, first, one round":    func(s []impl.Item, other []impl.Item) []impl.Item { return impl.LoopSet(other, s, 1) },
		"LoopSet, first without ties":  func(s []impl.Item, other []impl.Item) []impl.Item { return impl.LoopSet(nil, s, 6) },
		"LoopSet, both":                func(s []impl.Item, other []impl.Item) []impl.Item { return impl.LoopSet(s, s, 5) },
		"LoopSet, no round":            func(s []impl.Item, other []impl.Item) []impl.Item { return impl.LoopSet(s, other, 0) },
		"LoopSet, too many rounds":     func(s []impl.Item, other []impl.Item) []impl.Item { return impl.LoopSet(s, other, 7) },
	}
}

func rowLoopers() map[string]rowLooper {
	return map[string]rowLooper{
		"LoopFlow, ties":            func(a []impl.Row, other []impl.Row) []impl.Row { return flowOf(a, other, 6) },
		"LoopFlow, ties from 0":     func(a []impl.Row, other []impl.Row) []impl.Row { return flowOf(a, []impl.Row{row(0, 0, 0, 0, 1)}, 6) },
		"LoopFlow, first":           func(a []impl.Row, other []impl.Row) []impl.Row { return flowOf(other, a, 3) },
		"LoopFlow, first alone":     func(a []impl.Row, other []impl.Row) []impl.Row { return flowOf(nil, a, 1) },
		"LoopFlow, both":            func(a []impl.Row, other []impl.Row) []impl.Row { return flowOf(a, a, 4) },
		"LoopFlow, no round":        func(a []impl.Row, other []impl.Row) []impl.Row { return flowOf(a, other, 0) },
		"LoopFlow, too many rounds": func(a []impl.Row, other []impl.Row) []impl.Row { return flowOf(a, other, 7) },
		"LoopOut, fewer than none":  func(a []impl.Row, other []impl.Row) []impl.Row { return impl.LoopOut(a, -1) },
		"LoopOut, no round":         func(a []impl.Row, other []impl.Row) []impl.Row { return impl.LoopOut(a, 0) },
		"LoopOut":                   func(a []impl.Row, other []impl.Row) []impl.Row { return impl.LoopOut(a, 3) },
		"LoopOut, all rounds":       func(a []impl.Row, other []impl.Row) []impl.Row { return impl.LoopOut(a, 7) },
	}
}

// memoryLoopItems are items that are ok and not, and such as are what is come to of them, so that an answer could be what came in.
func memoryLoopItems() [][]impl.Item {
	return append(memoryItems(),
		keysOf(0),
		keysOf(0, 1, 2, 3),
		[]impl.Item{item(0, 0, 1), item(0, 1, 1), item(1, 0, 1), item(1, 1, 1)},
		[]impl.Item{item(0, 1, 1), item(1, 2, 1), item(2, 3, 1), item(3, 0, 1)})
}

// memoryLoopRows are likewise rows, with the B 0 and with others.
func memoryLoopRows() [][]impl.Row {
	lists := append(memoryFlows(),
		[]impl.Row{row(0, 0, 0, 0, 1)},
		[]impl.Row{row(0, 0, 0, 1, 1)},
		[]impl.Row{row(0, 0, 0, 0, 1), row(0, 1, 2, 0, 1), row(1, 0, 2, 0, -1)})
	for _, l := range sampleFlowLoops() {
		lists = append(lists, l.ties, l.first)
	}
	return append(lists, badFlatBatches()[:12]...)
}

func TestNothingThatGoesRoundIsWrittenInto(t *testing.T) {
	sets := memoryLoopItems()
	for i, list := range sets {
		s := withRoom(list, itemMark)
		for _, other := range append(partners(sets, i), sets[len(sets)-4:]...) {
			u := withRoom(other, itemMark)
			for name, looper := range itemLoopers() {
				looper(s, u)
				if !untouched(s, list, itemMark) || !untouched(u, other, itemMark) {
					t.Fatalf("%s wrote into %s or %s", name, some(list), some(other))
				}
			}
		}
	}
	lists := memoryLoopRows()
	for i, list := range lists {
		a := withRoom(list, rowMark)
		for _, other := range partners(lists, i) {
			b := withRoom(other, rowMark)
			for name, looper := range rowLoopers() {
				looper(a, b)
				if !untouched(a, list, rowMark) || !untouched(b, other, rowMark) {
					t.Fatalf("%s wrote into %s or %s", name, some(list), some(other))
				}
			}
		}
	}
}

func TestWhatIsComeToSharesNoMemory(t *testing.T) {
	sets := memoryLoopItems()
	for i, list := range sets {
		for _, other := range partners(sets, i)[:3] {
			u := withRoom(other, itemMark)
			for name, looper := range itemLoopers() {
				checkNew(t, name, item(2, 2, 2), list, itemMark, func(s []impl.Item) []impl.Item { return looper(s, u) })
				if !untouched(u, other, itemMark) {
					t.Fatalf("%s of %s and %s shares memory with the other", name, some(list), some(other))
				}
			}
		}
	}
	lists := memoryLoopRows()
	for i, list := range lists {
		for _, other := range partners(lists, i)[:3] {
			b := withRoom(other, rowMark)
			for name, looper := range rowLoopers() {
				checkNew(t, name, row(2, 2, 5, 5, 5), list, rowMark, func(a []impl.Row) []impl.Row { return looper(a, b) })
				if !untouched(b, other, rowMark) {
					t.Fatalf("%s of %s and %s shares memory with the other", name, some(list), some(other))
				}
			}
		}
	}
}

func TestPiecesOfOneListThatGoRound(t *testing.T) {
	whole := []impl.Item{item(0, 1, 1), item(1, 2, 1), item(2, 3, 1)}
	s := withRoom(whole, itemMark)
	if got := impl.LoopStep(s[1:], s[:1], s[:2]); !slices.Equal(got, keysOf(0, 2)) {
		t.Errorf("LoopStep of three pieces of %v is %v", whole, got)
	}
	if got := impl.LoopSet(s, s[:1], 3); !slices.Equal(got, keysOf(0, 1, 2)) {
		t.Errorf("LoopSet of two pieces of %v is %v", whole, got)
	}
	rows := []impl.Row{row(0, 1, 0, 0, 1), row(1, 2, 0, 0, 1), row(2, 3, 4, 0, 1)}
	a := withRoom(rows, rowMark)
	want := []impl.Row{row(0, 0, 0, 1, 1), row(1, 0, 0, 2, 1), row(2, 0, 0, 3, 1), row(3, 0, 4, 4, 1)}
	if got := flowOf(a, a[:1], 6); !slices.Equal(got, want) {
		t.Errorf("LoopFlow of two pieces of %v is %v", rows, got)
	}
	if !untouched(s, whole, itemMark) || !untouched(a, rows, rowMark) {
		t.Errorf("%v or %v was written into: %v, %v", whole, rows, s, a)
	}
}
