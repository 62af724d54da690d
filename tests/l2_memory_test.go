package tests

import (
	"slices"
	"testing"

	"loop.example/tideline/impl"
)

// rowMark is no ok row.
var rowMark = impl.Row{Key: -77, Val: 777, At: mark, Diff: 777777}

// memoryRows are batches, rows that are none, ok and not, and as many as can be.
func memoryRows() [][]impl.Row {
	lists := [][]impl.Row{
		nil,
		{row(1, 5, 2, 2, 1)},
		{row(1, 5, 2, 2, 0)},
		{row(0, 1, 1, 3, 2), row(1, 5, 3, 3, 1), row(3, 0, 2, 2, -4)},
		{row(3, 0, 2, 2, -4), row(1, 5, 3, 3, 1), row(0, 1, 1, 3, 2)},
		{row(1, 5, 2, 2, 1), row(1, 5, 2, 2, 1), row(1, 5, 2, 2, -2), row(0, 0, 0, 0, 1)},
		{row(1, 5, 2, 2, 99999), row(1, 5, 2, 2, 1)},
		{row(4, 5, 2, 2, 1), row(1, 5, 2, 2, 1)},
		manyRows(rowsMost, 1),
		manyRows(rowsMost+1, 1),
	}
	for i, list := range rowLists() {
		if i%9 == 0 {
			lists = append(lists, list)
		}
	}
	return lists
}

// makers are all that make rows of one list.
func makers(f []impl.Time) map[string]func([]impl.Row) []impl.Row {
	return map[string]func([]impl.Row) []impl.Row{
		"BatchOf":                  impl.BatchOf,
		"BatchLess":                impl.BatchLess,
		"BatchMove":                func(a []impl.Row) []impl.Row { return impl.BatchMove(a, f) },
		"BatchMove, to no time":    func(a []impl.Row) []impl.Row { return impl.BatchMove(a, nil) },
		"BatchBoth with nothing":   func(a []impl.Row) []impl.Row { return impl.BatchBoth(a, nil) },
		"BatchBoth behind nothing": func(a []impl.Row) []impl.Row { return impl.BatchBoth(nil, a) },
		"BatchBoth with itself":    func(a []impl.Row) []impl.Row { return impl.BatchBoth(a, a) },
	}
}

func TestNoRowsAreWrittenInto(t *testing.T) {
	front := []impl.Time{at(1, 3), at(3, 1)}
	f := withRoom(front, mark)
	for _, list := range memoryRows() {
		a := withRoom(list, rowMark)
		impl.RowsOk(a)
		impl.BatchOk(a)
		impl.BatchTimes(a)
		for _, s := range []impl.Time{at(0, 0), at(2, 2), at(7, 7), at(8, 0)} {
			impl.BatchAt(a, s)
		}
		for name, maker := range makers(f) {
			maker(a)
			if !untouched(a, list, rowMark) || !untouched(f, front, mark) {
				t.Fatalf("%s wrote into %s", name, some(list))
			}
		}
		for _, other := range memoryRows() {
			b := withRoom(other, rowMark)
			impl.BatchBoth(a, b)
			if !untouched(a, list, rowMark) || !untouched(b, other, rowMark) {
				t.Fatalf("BatchBoth wrote into %s or %s", some(list), some(other))
			}
		}
	}
}

// checkNew asks twice, writes over the first answer, and looks whether anything else changed.
func checkNew[S comparable, T comparable](t *testing.T, name string, over T, list []S, mark S, ask func(a []S) []T) {
	t.Helper()
	a := withRoom(list, mark)
	first := ask(a)
	want := slices.Clone(first)
	second := ask(a)
	scribble(first, over)
	if !untouched(a, list, mark) {
		t.Fatalf("%s of %s shares memory with it", name, some(list))
	}
	if !slices.Equal(second, want) || !slices.Equal(ask(a), want) {
		t.Fatalf("two answers of %s of %s share memory", name, some(list))
	}
}

func TestWhatIsMadeOfRowsSharesNoMemory(t *testing.T) {
	front := []impl.Time{at(1, 3), at(3, 1)}
	f := withRoom(front, mark)
	for _, list := range memoryRows() {
		for name, maker := range makers(f) {
			checkNew(t, name, row(2, 2, 5, 5, 5), list, rowMark, maker)
		}
		checkNew(t, "BatchAt", item(2, 2, 2), list, rowMark, func(a []impl.Row) []impl.Item { return impl.BatchAt(a, at(4, 4)) })
		checkNew(t, "BatchTimes", at(5, 5), list, rowMark, impl.BatchTimes)
		for _, other := range memoryRows() {
			b := withRoom(other, rowMark)
			checkNew(t, "BatchBoth", row(2, 2, 5, 5, 5), list, rowMark, func(a []impl.Row) []impl.Row { return impl.BatchBoth(a, b) })
			if !untouched(b, other, rowMark) {
				t.Fatalf("BatchBoth of %s and %s shares memory with the second", some(list), some(other))
			}
		}
	}
	if !untouched(f, front, mark) {
		t.Error("BatchMove shares memory with the front")
	}
}

func TestPiecesOfOneListAsBothArguments(t *testing.T) {
	whole := []impl.Row{row(0, 1, 0, 0, 1), row(0, 2, 0, 0, 2), row(0, 3, 0, 0, 3)}
	a := withRoom(whole, rowMark)
	want := []impl.Row{row(0, 1, 0, 0, 1), row(0, 2, 0, 0, 4), row(0, 3, 0, 0, 3)}
	if got := impl.BatchBoth(a[:2], a[1:]); !slices.Equal(got, want) {
		t.Errorf("BatchBoth of two pieces of %v is %v", whole, got)
	}
	if !untouched(a, whole, rowMark) {
		t.Errorf("%v was written into: %v", whole, a)
	}
}
