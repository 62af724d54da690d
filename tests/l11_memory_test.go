package tests

import (
	"slices"
	"testing"

	"loop.example/tideline/impl"
)

// memoryFlows are rows that are ok and not, and such as are what is made of them, so that an answer could be what came in.
func memoryFlows() [][]impl.Row {
	lists := append(memoryRows(), sampleFlows()...)
	return append(lists,
		[]impl.Row{row(0, 0, 1, 1, 1)},
		[]impl.Row{row(0, 2, 1, 1, 1)},
		[]impl.Row{row(0, 2, 1, 1, 1), row(0, 4, 0, 3, 1), row(2, 0, 1, 1, 1)},
		slices.Concat(slopeRows(0, count), slopeRows(1, count)))
}

func TestNoChangesAreWrittenInto(t *testing.T) {
	for _, list := range memoryFlows() {
		a := withRoom(list, rowMark)
		for key := -1; key <= keys; key++ {
			impl.FlowTimes(a, key)
		}
		for _, other := range memoryFlows()[:12] {
			b := withRoom(other, rowMark)
			for name, maker := range flowMakers(b) {
				maker(a)
				if !untouched(a, list, rowMark) || !untouched(b, other, rowMark) {
					t.Fatalf("%s wrote into %s or %s", name, some(list), some(other))
				}
			}
		}
		if !untouched(a, list, rowMark) {
			t.Fatalf("%s was written into", some(list))
		}
	}
}

func TestWhatIsMadeOfChangesSharesNoMemory(t *testing.T) {
	for _, list := range memoryFlows() {
		for key := range keys {
			checkNew(t, "FlowTimes", at(5, 5), list, rowMark, func(a []impl.Row) []impl.Time { return impl.FlowTimes(a, key) })
		}
		for _, other := range memoryFlows()[3:7] {
			b := withRoom(other, rowMark)
			for name, maker := range flowMakers(b) {
				checkNew(t, name, row(2, 2, 5, 5, 5), list, rowMark, maker)
				if !untouched(b, other, rowMark) {
					t.Fatalf("%s of %s and %s shares memory with the other", name, some(list), some(other))
				}
			}
		}
	}
}

func TestPiecesOfOneListAsBothSidesOfPairs(t *testing.T) {
	whole := []impl.Row{row(0, 1, 0, 2, 1), row(0, 2, 1, 1, 2), row(0, 3, 2, 0, 3)}
	a := withRoom(whole, rowMark)
	want := []impl.Row{row(0, 12, 1, 2, 2), row(0, 13, 2, 2, 3), row(0, 22, 1, 1, 4), row(0, 23, 2, 1, 6)}
	if got := impl.FlowJoin(a[:2], a[1:]); !slices.Equal(got, want) {
		t.Errorf("FlowJoin of two pieces of %v is %v", whole, got)
	}
	if !untouched(a, whole, rowMark) {
		t.Errorf("%v was written into: %v", whole, a)
	}
}
