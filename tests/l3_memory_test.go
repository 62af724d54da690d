package tests

import (
	"slices"
	"strconv"
	"testing"

	"loop.example/tideline/impl"
)

// itemMark is no ok item.
var itemMark = impl.Item{Key: -77, Val: 777, Count: 1 << 50}

// itemMakers are all that make items of one list, or of one and another.
func itemMakers(other []impl.Item) map[string]func([]impl.Item) []impl.Item {
	makers := map[string]func([]impl.Item) []impl.Item{
		"SetBoth":                func(s []impl.Item) []impl.Item { return impl.SetBoth(s, other) },
		"SetBoth, second":        func(s []impl.Item) []impl.Item { return impl.SetBoth(other, s) },
		"SetBoth with nothing":   func(s []impl.Item) []impl.Item { return impl.SetBoth(s, nil) },
		"SetBoth behind nothing": func(s []impl.Item) []impl.Item { return impl.SetBoth(nil, s) },
		"SetBoth with itself":    func(s []impl.Item) []impl.Item { return impl.SetBoth(s, s) },
		"SetLess":                impl.SetLess,
		"SetJoin":                func(s []impl.Item) []impl.Item { return impl.SetJoin(s, other) },
		"SetJoin, second":        func(s []impl.Item) []impl.Item { return impl.SetJoin(other, s) },
		"SetJoin with nothing":   func(s []impl.Item) []impl.Item { return impl.SetJoin(s, nil) },
		"SetJoin with itself":    func(s []impl.Item) []impl.Item { return impl.SetJoin(s, s) },
		"SetCount":               impl.SetCount,
		"SetOnce":                impl.SetOnce,
		"SetLeast":               impl.SetLeast,
	}
	for how := range len(ways) + 2 {
		makers["SetEach by "+strconv.Itoa(how)] = func(s []impl.Item) []impl.Item { return impl.SetEach(s, how) }
	}
	return makers
}

// memoryItems are items that are ok, such as are all once, so that an answer could be what came in, and such as are not ok.
func memoryItems() [][]impl.Item {
	sets := [][]impl.Item{
		{item(0, 1, 1), item(1, 2, 1), item(2, 3, 1)},
		{item(0, 2, 1), item(0, 4, 1)},
		{item(1, 5, 0)},
		{item(1, 1, 1), item(0, 1, 1)},
		{item(1, 5, 1), item(1, 5, 1)},
		append(allItems(1), item(3, 99, 1)),
	}
	for i, s := range itemLists() {
		if i%9 == 0 {
			sets = append(sets, s)
		}
	}
	return append(sets, sampleItems()...)
}

func TestNoItemsAreWrittenInto(t *testing.T) {
	for _, list := range memoryItems() {
		s := withRoom(list, itemMark)
		impl.SetOk(s)
		for _, other := range memoryItems()[:12] {
			u := withRoom(other, itemMark)
			for name, maker := range itemMakers(u) {
				maker(s)
				if !untouched(s, list, itemMark) || !untouched(u, other, itemMark) {
					t.Fatalf("%s wrote into %s or %s", name, some(list), some(other))
				}
			}
		}
	}
}

func TestWhatIsMadeOfItemsSharesNoMemory(t *testing.T) {
	for _, list := range memoryItems() {
		for _, other := range memoryItems()[:12] {
			u := withRoom(other, itemMark)
			for name, maker := range itemMakers(u) {
				checkNew(t, name, item(2, 2, 2), list, itemMark, maker)
				if !untouched(u, other, itemMark) {
					t.Fatalf("%s of %s and %s shares memory with the other", name, some(list), some(other))
				}
			}
		}
	}
}

func TestPiecesOfOneListOfItemsAsBothArguments(t *testing.T) {
	whole := []impl.Item{item(0, 1, 1), item(0, 2, 2), item(0, 3, 3)}
	s := withRoom(whole, itemMark)
	if got := impl.SetBoth(s[:2], s[1:]); !slices.Equal(got, []impl.Item{item(0, 1, 1), item(0, 2, 4), item(0, 3, 3)}) {
		t.Errorf("SetBoth of two pieces of %v is %v", whole, got)
	}
	if got := impl.SetJoin(s[:2], s[1:]); !slices.Equal(got, []impl.Item{item(0, 12, 2), item(0, 13, 3), item(0, 22, 4), item(0, 23, 6)}) {
		t.Errorf("SetJoin of two pieces of %v is %v", whole, got)
	}
	if !untouched(s, whole, itemMark) {
		t.Errorf("%v was written into: %v", whole, s)
	}
}
