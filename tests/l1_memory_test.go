package tests

import (
	"slices"
	"testing"

	"loop.example/tideline/impl"
)

// mark is written where the program must not write: no ok time, so that a use of it shows, too.
var mark = impl.Time{A: -77, B: 77}

// room is how many marks there are behind a list: more than an answer could need.
const room = 512

// withRoom is a list with room behind its end, filled with marks.
func withRoom[T any](list []T, mark T) []T {
	roomy := slices.Clone(list)
	for range room {
		roomy = append(roomy, mark)
	}
	return roomy[:len(list)]
}

func untouched[T comparable](roomy []T, list []T, mark T) bool {
	for _, x := range roomy[len(list) : len(list)+room] {
		if x != mark {
			return false
		}
	}
	return slices.Equal(roomy, list)
}

// scribble writes over a whole list, its spare room included.
func scribble[T any](list []T, over T) {
	all := list[:cap(list)]
	for i := range all {
		all[i] = over
	}
}

// memoryLists are fronts, and lists that are none, of ok times and not.
func memoryLists() [][]impl.Time {
	lists := [][]impl.Time{
		nil,
		{at(0, 0)},
		{at(7, 7)},
		{at(1, 3), at(3, 1)},
		{at(0, 7), at(1, 6), at(2, 5), at(3, 4), at(4, 3), at(5, 2), at(6, 1), at(7, 0)},
		{at(7, 0), at(6, 1), at(5, 2), at(4, 3), at(3, 4)},
		{at(5, 1), at(3, 3), at(1, 5), at(3, 3), at(2, 1)},
		{at(4, 4), at(4, 4)},
		{at(3, 3), at(2, 2), at(1, 1)},
		{at(1, 6), at(3, 8), at(5, 2)},
		{at(-1, 7)},
	}
	return append(lists, mixedLists()[:200]...)
}

func TestNoArgumentIsWrittenInto(t *testing.T) {
	for _, list := range memoryLists() {
		f := withRoom(list, mark)
		impl.FrontOk(f)
		impl.FrontOf(f)
		for _, s := range append(allTimes(), badTimes()...) {
			impl.FrontCovers(f, s)
			impl.FrontMove(f, s)
		}
		if !untouched(f, list, mark) {
			t.Fatalf("%v was written into: %v", list, f)
		}
		for _, other := range memoryLists() {
			g := withRoom(other, mark)
			impl.FrontBoth(f, g)
			impl.FrontBoth(g, f)
			impl.FrontBoth(f, f)
			if !untouched(f, list, mark) || !untouched(g, other, mark) {
				t.Fatalf("%v or %v was written into: %v, %v", list, other, f, g)
			}
		}
	}
}

func TestAnAnswerSharesNoMemory(t *testing.T) {
	for _, list := range memoryLists() {
		f := withRoom(list, mark)
		first := impl.FrontOf(f)
		want := slices.Clone(first)
		second := impl.FrontOf(f)
		scribble(first, at(5, 5))
		if !untouched(f, list, mark) {
			t.Fatalf("FrontOf of %v shares memory with it", list)
		}
		if !slices.Equal(second, want) || !slices.Equal(impl.FrontOf(f), want) {
			t.Fatalf("two answers of FrontOf of %v share memory", list)
		}
		for _, other := range memoryLists() {
			checkBothIsNew(t, list, other)
		}
	}
}

func checkBothIsNew(t *testing.T, list []impl.Time, other []impl.Time) {
	t.Helper()
	f, g := withRoom(list, mark), withRoom(other, mark)
	first := impl.FrontBoth(f, g)
	want := slices.Clone(first)
	second := impl.FrontBoth(f, g)
	scribble(first, at(5, 5))
	if !untouched(f, list, mark) || !untouched(g, other, mark) {
		t.Fatalf("FrontBoth of %v and %v shares memory with them", list, other)
	}
	if !slices.Equal(second, want) || !slices.Equal(impl.FrontBoth(f, g), want) {
		t.Fatalf("two answers of FrontBoth of %v and %v share memory", list, other)
	}
}

func TestOneListAsBothArguments(t *testing.T) {
	whole := []impl.Time{at(0, 6), at(2, 4), at(4, 2), at(6, 0)}
	f := withRoom(whole, mark)
	if got := impl.FrontBoth(f[:2], f[1:]); !slices.Equal(got, []impl.Time{at(2, 4)}) {
		t.Errorf("FrontBoth of two pieces of %v is %v", whole, got)
	}
	if !untouched(f, whole, mark) {
		t.Errorf("%v was written into: %v", whole, f)
	}
}
