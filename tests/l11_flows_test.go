package tests

import (
	"math"
	"slices"
	"strconv"
	"testing"

	"loop.example/tideline/impl"
)

func TestKindsHaveTheirNumbers(t *testing.T) {
	if !slices.Equal(kinds, []int{1, 2, 3}) {
		t.Error(kinds)
	}
}

// noNumbers are such as no way has, and no kind of sum.
var noNumbers = []int{0, -1, -3, 8, 9, 100, math.MinInt, math.MaxInt, 1 << 32, 1<<32 + 1, 1<<32 + 2}

func TestFlowEach(t *testing.T) {
	a := []impl.Row{row(2, 9, 3, 1, 1), row(1, 8, 0, 2, -2), row(1, 9, 3, 1, 4), row(0, 10, 2, 2, 3)}
	cases := []struct {
		a    []impl.Row
		how  int
		want []impl.Row
	}{
		{a, impl.MapSwap, []impl.Row{row(0, 9, 0, 2, -2), row(1, 9, 3, 1, 4), row(1, 10, 3, 1, 1), row(2, 8, 2, 2, 3)}},
		{a, impl.MapNext, []impl.Row{row(0, 11, 2, 2, 3), row(1, 9, 0, 2, -2), row(1, 10, 3, 1, 4), row(2, 10, 3, 1, 1)}},
		{a, impl.MapKey, []impl.Row{row(0, 8, 0, 2, -2), row(1, 9, 3, 1, 5), row(2, 10, 2, 2, 3)}},
		{a, impl.MapOne, []impl.Row{row(0, 8, 0, 2, -2), row(0, 9, 3, 1, 5), row(0, 10, 2, 2, 3)}},
		{a, impl.KeepEven, []impl.Row{row(0, 10, 2, 2, 3), row(1, 8, 0, 2, -2)}},
		{a, impl.KeepKey, []impl.Row{row(0, 10, 2, 2, 3), row(2, 9, 3, 1, 1)}},
		{a, impl.KeepLow, []impl.Row{row(1, 8, 0, 2, -2), row(1, 9, 3, 1, 4), row(2, 9, 3, 1, 1)}},
		{[]impl.Row{row(0, 99, 7, 0, 1), row(0, 98, 0, 7, 1)}, impl.MapNext, []impl.Row{row(0, 0, 7, 0, 1), row(0, 99, 0, 7, 1)}},
		{[]impl.Row{row(0, 3, 1, 1, 1), row(1, 3, 1, 1, -1)}, impl.MapOne, nil},
		{[]impl.Row{row(0, 3, 1, 1, 1), row(1, 3, 1, 2, -1)}, impl.MapOne, []impl.Row{row(0, 3, 1, 1, 1), row(0, 3, 1, 2, -1)}},
		{[]impl.Row{row(1, 3, 1, 1, 1), row(1, 3, 1, 1, -1)}, impl.KeepLow, nil},
		{[]impl.Row{row(1, 3, 1, 1, 0)}, impl.KeepLow, nil},
		{[]impl.Row{row(2, 4, 1, 1, 2), row(2, 4, 1, 1, 3)}, impl.KeepEven, []impl.Row{row(2, 4, 1, 1, 5)}},
		{[]impl.Row{row(2, 5, 1, 1, 2)}, impl.KeepEven, nil},
		{manyRows(rowsMost, 1), impl.KeepLow, manyRows(rowsMost, 1)},
		{manyRows(rowsMost, -diffMost), impl.MapOne, manyRows(rowsMost, -diffMost)},
	}
	for _, c := range cases {
		if got := impl.FlowEach(c.a, c.how); !slices.Equal(got, c.want) {
			t.Errorf("FlowEach of %s by %d is %s", some(c.a), c.how, some(got))
		}
	}
}

func TestFlowEachAtTheLimitAndBeyondIt(t *testing.T) {
	rest := row(3, 7, 2, 2, 1)
	cases := []struct{ a, want []impl.Row }{
		{[]impl.Row{row(0, 8, 1, 1, 50000), row(1, 8, 1, 1, 49999)}, []impl.Row{row(0, 8, 1, 1, 99999)}},
		{[]impl.Row{row(0, 8, 1, 1, 50000), row(1, 8, 1, 1, 50000)}, nil},
		{[]impl.Row{row(0, 8, 1, 1, -50000), row(1, 8, 1, 1, -49999)}, []impl.Row{row(0, 8, 1, 1, -99999)}},
		{[]impl.Row{row(0, 8, 1, 1, -50000), row(1, 8, 1, 1, -50000)}, nil},
		{[]impl.Row{row(0, 8, 1, 1, 99999), row(1, 8, 1, 1, 1), rest}, nil},
		{[]impl.Row{row(0, 8, 1, 1, 99999), row(1, 8, 1, 1, 99999), row(2, 8, 1, 1, -99999), rest}, []impl.Row{row(0, 7, 2, 2, 1), row(0, 8, 1, 1, 99999)}},
		{[]impl.Row{row(0, 8, 1, 1, 99999), row(1, 8, 1, 2, 99999)}, []impl.Row{row(0, 8, 1, 1, 99999), row(0, 8, 1, 2, 99999)}},
	}
	for _, c := range cases {
		if got := impl.FlowEach(c.a, impl.MapOne); !slices.Equal(got, c.want) {
			t.Errorf("FlowEach of %v is %v", c.a, got)
		}
	}
	// What is not kept is not summed up either.
	a := []impl.Row{row(0, 9, 1, 1, 99999), row(0, 9, 1, 1, 99999), row(0, 8, 1, 1, 1)}
	if got := impl.FlowEach(a, impl.KeepEven); !slices.Equal(got, a[2:]) {
		t.Errorf("FlowEach of %v is %v", a, got)
	}
}

func TestFlowEachOfMany(t *testing.T) {
	for _, how := range ways {
		none := 0
		for _, a := range flowLists() {
			want, ok := wantFlowEach(a, how)
			if got := impl.FlowEach(a, how); !slices.Equal(got, want) {
				t.Fatalf("FlowEach of %s by %d is %s", some(a), how, some(got))
			}
			if !ok {
				none++
			}
		}
		if none == 0 {
			t.Errorf("no rows are too much by %d", how)
		}
	}
}

func TestFlowEachOfEachThing(t *testing.T) {
	for _, how := range ways {
		for _, x := range allItems(-7) {
			key, val, kept := wantWay(x.Key, x.Val, how)
			var want []impl.Row
			if kept {
				want = []impl.Row{row(key, val, 6, 2, -7)}
			}
			if got := impl.FlowEach([]impl.Row{row(x.Key, x.Val, 6, 2, -7)}, how); !slices.Equal(got, want) {
				t.Errorf("FlowEach of %v by %d is %v", x, how, got)
			}
		}
	}
}

func TestFlowByAWayOrAKindThatIsNoneIsNothing(t *testing.T) {
	for _, a := range append(sampleFlows(), badLists()...) {
		for _, n := range noNumbers {
			if got := impl.FlowEach(a, n); len(got) != 0 {
				t.Errorf("FlowEach of %s by %d is %s", some(a), n, some(got))
			}
		}
		for _, n := range append([]int{4, 5, 7}, noNumbers...) {
			if got := impl.FlowSum(a, n); len(got) != 0 {
				t.Errorf("FlowSum of %s of kind %d is %s", some(a), n, some(got))
			}
		}
	}
}

func TestFlowJoin(t *testing.T) {
	cases := []struct{ a, b, want []impl.Row }{
		{[]impl.Row{row(1, 3, 0, 2, 2)}, []impl.Row{row(1, 7, 2, 0, 5)}, []impl.Row{row(1, 37, 2, 2, 10)}},
		{[]impl.Row{row(1, 7, 0, 2, 2)}, []impl.Row{row(1, 3, 2, 0, 5)}, []impl.Row{row(1, 73, 2, 2, 10)}},
		{[]impl.Row{row(1, 3, 1, 5, -2)}, []impl.Row{row(1, 7, 1, 6, 5)}, []impl.Row{row(1, 37, 1, 6, -10)}},
		{[]impl.Row{row(1, 3, 4, 4, -2)}, []impl.Row{row(1, 7, 1, 1, -5)}, []impl.Row{row(1, 37, 4, 4, 10)}},
		{[]impl.Row{row(1, 3, 4, 4, 2)}, []impl.Row{row(2, 7, 1, 1, 5)}, nil},
		{[]impl.Row{row(0, 99, 0, 0, 1)}, []impl.Row{row(0, 99, 7, 7, 1)}, []impl.Row{row(0, 89, 7, 7, 1)}},
		{[]impl.Row{row(0, 9, 7, 0, 1)}, []impl.Row{row(0, 10, 0, 7, 1)}, []impl.Row{row(0, 0, 7, 7, 1)}},
		{[]impl.Row{row(1, 3, 0, 2, 1), row(1, 13, 2, 0, 1)}, []impl.Row{row(1, 7, 2, 2, 2)}, []impl.Row{row(1, 37, 2, 2, 4)}},
		{[]impl.Row{row(1, 3, 0, 2, 1), row(1, 13, 2, 0, -1)}, []impl.Row{row(1, 7, 2, 2, 2)}, nil},
		{[]impl.Row{row(1, 3, 0, 2, 1), row(1, 13, 2, 0, -1)}, []impl.Row{row(1, 7, 2, 1, 2)}, []impl.Row{row(1, 37, 2, 1, -2), row(1, 37, 2, 2, 2)}},
		{[]impl.Row{row(1, 3, 1, 1, 0)}, []impl.Row{row(1, 7, 2, 2, 5)}, nil},
		{[]impl.Row{row(1, 3, 1, 1, 4), row(1, 3, 1, 1, -4)}, []impl.Row{row(1, 7, 2, 2, 5)}, nil},
		{[]impl.Row{row(3, 0, 1, 1, 4), row(0, 1, 1, 1, 1)}, []impl.Row{row(3, 1, 0, 0, 1), row(0, 0, 0, 0, 2)}, []impl.Row{row(0, 10, 1, 1, 2), row(3, 1, 1, 1, 4)}},
		{[]impl.Row{row(1, 3, 0, 4, 1), row(1, 4, 2, 2, 1)}, []impl.Row{row(1, 7, 4, 0, 1), row(1, 8, 1, 3, 1)}, []impl.Row{row(1, 37, 4, 4, 1), row(1, 38, 1, 4, 1), row(1, 47, 4, 2, 1), row(1, 48, 2, 3, 1)}},
	}
	for _, c := range cases {
		if got := impl.FlowJoin(c.a, c.b); !slices.Equal(got, c.want) {
			t.Errorf("FlowJoin of %s and %s is %s", some(c.a), some(c.b), some(got))
		}
	}
}

func TestFlowJoinAtTheLimitOfADiffAndBeyondIt(t *testing.T) {
	cases := []struct{ a, b, want []impl.Row }{
		{[]impl.Row{row(1, 3, 1, 1, 3)}, []impl.Row{row(1, 7, 1, 1, 33333)}, []impl.Row{row(1, 37, 1, 1, 99999)}},
		{[]impl.Row{row(1, 3, 1, 1, -3)}, []impl.Row{row(1, 7, 1, 1, 33333)}, []impl.Row{row(1, 37, 1, 1, -99999)}},
		{[]impl.Row{row(1, 3, 1, 1, -1)}, []impl.Row{row(1, 7, 1, 1, -99999)}, []impl.Row{row(1, 37, 1, 1, 99999)}},
		{[]impl.Row{row(1, 3, 1, 1, 2)}, []impl.Row{row(1, 7, 1, 1, 50000)}, nil},
		{[]impl.Row{row(1, 3, 1, 1, -2)}, []impl.Row{row(1, 7, 1, 1, 50000)}, nil},
		{[]impl.Row{row(1, 3, 1, 1, 99999)}, []impl.Row{row(1, 7, 1, 1, 99999)}, nil},
		{[]impl.Row{row(1, 3, 1, 1, 99999)}, []impl.Row{row(1, 7, 1, 1, -99999)}, nil},
		{[]impl.Row{row(1, 3, 1, 1, 65536)}, []impl.Row{row(1, 7, 1, 1, 65537)}, nil}, // of 32 bits it would be ok
		{[]impl.Row{row(1, 3, 1, 1, 1), row(1, 13, 1, 1, 99998)}, []impl.Row{row(1, 7, 1, 1, 1)}, []impl.Row{row(1, 37, 1, 1, 99999)}},
		{[]impl.Row{row(1, 3, 1, 1, 1), row(1, 13, 1, 1, 99999)}, []impl.Row{row(1, 7, 1, 1, 1)}, nil},
		{[]impl.Row{row(1, 3, 1, 1, 1), row(1, 13, 1, 1, 99999)}, []impl.Row{row(1, 7, 1, 1, -1)}, nil},
		{[]impl.Row{row(1, 3, 1, 1, 1), row(1, 13, 2, 1, 99999)}, []impl.Row{row(1, 7, 1, 1, 1)}, []impl.Row{row(1, 37, 1, 1, 1), row(1, 37, 2, 1, 99999)}},
		{[]impl.Row{row(1, 3, 1, 1, 99999), row(1, 13, 1, 1, -99998)}, []impl.Row{row(1, 7, 1, 1, 99999)}, []impl.Row{row(1, 37, 1, 1, 99999)}},
		{[]impl.Row{row(1, 3, 1, 1, 99999), row(1, 3, 1, 1, 99999)}, []impl.Row{row(1, 7, 1, 1, 1), row(1, 7, 1, 1, -1)}, nil},
		{[]impl.Row{row(1, 3, 1, 1, 2), row(2, 3, 1, 1, 1)}, []impl.Row{row(1, 7, 1, 1, 50000), row(2, 7, 1, 1, 1)}, nil},
		{slices.Repeat([]impl.Row{row(1, 3, 1, 1, 99999)}, rowsMost), slices.Repeat([]impl.Row{row(1, 7, 1, 1, 99999)}, rowsMost), nil},
		{slices.Repeat([]impl.Row{row(1, 3, 1, 1, 1)}, 99), slices.Repeat([]impl.Row{row(1, 7, 1, 1, 1)}, rowsMost), []impl.Row{row(1, 37, 1, 1, 39600)}},
	}
	for _, c := range cases {
		if got := impl.FlowJoin(c.a, c.b); !slices.Equal(got, c.want) {
			t.Errorf("FlowJoin of %s and %s is %s", some(c.a), some(c.b), some(got))
		}
	}
}

func TestFlowJoinOfAsManyRowsAsCanBe(t *testing.T) {
	a, b := crossRows()
	want, ok := wantFlowJoin(a, b)
	if got := impl.FlowJoin(a, b); !ok || len(got) != rowsMost || !slices.Equal(got, want) {
		t.Errorf("%d rows", len(got))
	}
	one := row(0, 0, 0, 0, 1)
	if got := impl.FlowJoin(append(a, one), append(b, one)); len(got) != 0 {
		t.Errorf("%d rows", len(got))
	}
	if got := impl.FlowJoin(append(a, one), b); len(got) != rowsMost {
		t.Errorf("%d rows", len(got))
	}
	full := manyRows(rowsMost, 1)
	if got := impl.FlowJoin(full, full); len(got) != 0 {
		t.Errorf("%d rows", len(got))
	}
	// One row behind all that comes in leaves of all times one.
	if got := impl.FlowJoin(full, []impl.Row{row(0, 0, 7, 7, 1)}); len(got) != 7 {
		t.Errorf("%d rows", len(got))
	}
}

func TestFlowJoinOfMany(t *testing.T) {
	lists := flowLists()
	told, none := 0, 0
	for i, a := range lists {
		for _, b := range partners(lists, i) {
			want, ok := wantFlowJoin(a, b)
			if got := impl.FlowJoin(a, b); !slices.Equal(got, want) {
				t.Fatalf("FlowJoin of %s and %s is %s", some(a), some(b), some(got))
			}
			if ok && len(want) > 0 {
				told++
			} else if !ok {
				none++
			}
		}
	}
	if told < 500 || none < 200 {
		t.Errorf("%d are told, %d are too much", told, none)
	}
}

func TestFlowTimes(t *testing.T) {
	three := []impl.Row{row(2, 5, 4, 0, 1), row(2, 5, 0, 4, 1), row(2, 5, 2, 2, 1)}
	cases := []struct {
		a    []impl.Row
		key  int
		want []impl.Time
	}{
		{nil, 0, nil},
		{[]impl.Row{row(0, 1, 3, 2, 1)}, 0, []impl.Time{at(3, 2)}},
		{[]impl.Row{row(0, 1, 3, 2, 1)}, 1, nil},
		{[]impl.Row{row(0, 1, 0, 0, 1), row(0, 2, 7, 7, 1)}, 0, []impl.Time{at(0, 0), at(7, 7)}},
		{[]impl.Row{row(0, 1, 2, 0, 1), row(0, 9, 0, 2, 1)}, 0, []impl.Time{at(0, 2), at(2, 0), at(2, 2)}},
		{[]impl.Row{row(0, 1, 2, 0, 1), row(1, 1, 0, 2, 1)}, 0, []impl.Time{at(2, 0)}},
		{[]impl.Row{row(0, 1, 2, 0, 1), row(1, 1, 0, 2, 1)}, 1, []impl.Time{at(0, 2)}},
		{[]impl.Row{row(0, 1, 2, 0, 1), row(0, 1, 2, 0, 5), row(0, 2, 2, 0, 1)}, 0, []impl.Time{at(2, 0)}},
		{three, 2, []impl.Time{at(0, 4), at(2, 2), at(2, 4), at(4, 0), at(4, 2), at(4, 4)}},
		{three, 0, nil},
		{three, 3, nil},
		{append(three, row(2, 0, 3, 1, 1)), 2, []impl.Time{at(0, 4), at(2, 2), at(2, 4), at(3, 1), at(3, 2), at(3, 4), at(4, 0), at(4, 1), at(4, 2), at(4, 4)}},
		{squareRows(1, side, side), 1, allTimes()},
		{slopeRows(3, count), 3, allTimes()},
	}
	for _, c := range cases {
		if got := impl.FlowTimes(c.a, c.key); !slices.Equal(got, c.want) {
			t.Errorf("FlowTimes of %s of %d is %v", some(c.a), c.key, got)
		}
	}
}

// All times of rows are those of all rows, also of such as are 0, or cancel one another.
func TestFlowTimesAreOfAllRowsOfTheKey(t *testing.T) {
	cancel := []impl.Row{row(1, 5, 2, 0, 1), row(1, 5, 2, 0, -1), row(1, 5, 0, 1, 0)}
	if got := impl.FlowTimes(cancel, 1); !slices.Equal(got, []impl.Time{at(0, 1), at(2, 0), at(2, 1)}) {
		t.Errorf("FlowTimes of %v is %v", cancel, got)
	}
	most := slices.Repeat([]impl.Row{row(1, 5, 2, 0, diffMost)}, rowsMost)
	if got := impl.FlowTimes(most, 1); !slices.Equal(got, []impl.Time{at(2, 0)}) {
		t.Errorf("FlowTimes of %s is %v", some(most), got)
	}
}

func TestFlowTimesOfAKeyThatIsNoneIsNothing(t *testing.T) {
	for _, a := range flowLists() {
		for _, key := range []int{-1, keys, keys + 1, 100, math.MinInt, math.MaxInt, 1 << 32} {
			if got := impl.FlowTimes(a, key); len(got) != 0 {
				t.Errorf("FlowTimes of %s of %d is %v", some(a), key, got)
			}
		}
	}
}

func TestFlowSum(t *testing.T) {
	two := []impl.Row{row(0, 1, 0, 2, 1), row(0, 2, 2, 0, 1)}
	three := []impl.Row{row(2, 7, 0, 2, 1), row(2, 5, 1, 1, 1), row(2, 6, 2, 0, 1)}
	below := []impl.Row{row(1, 4, 0, 0, -1), row(1, 4, 0, 3, 2), row(1, 4, 3, 0, 2), row(1, 8, 0, 0, 1)}
	cases := []struct {
		a    []impl.Row
		kind int
		want []impl.Row
	}{
		{two, impl.SumCount, []impl.Row{row(0, 1, 0, 2, 1), row(0, 1, 2, 0, 1), row(0, 1, 2, 2, -2), row(0, 2, 2, 2, 1)}},
		{two, impl.SumOnce, two},
		{two, impl.SumLeast, []impl.Row{row(0, 1, 0, 2, 1), row(0, 2, 2, 0, 1), row(0, 2, 2, 2, -1)}},
		{three, impl.SumCount, []impl.Row{
			row(2, 1, 0, 2, 1), row(2, 1, 1, 1, 1), row(2, 1, 1, 2, -2), row(2, 1, 2, 0, 1), row(2, 1, 2, 1, -2), row(2, 1, 2, 2, 1),
			row(2, 2, 1, 2, 1), row(2, 2, 2, 1, 1), row(2, 2, 2, 2, -2), row(2, 3, 2, 2, 1)}},
		{three, impl.SumLeast, []impl.Row{row(2, 5, 1, 1, 1), row(2, 6, 2, 0, 1), row(2, 6, 2, 1, -1), row(2, 7, 0, 2, 1), row(2, 7, 1, 2, -1)}},
		{below, impl.SumCount, []impl.Row{row(1, 2, 0, 3, 1), row(1, 2, 3, 0, 1), row(1, 2, 3, 3, -2), row(1, 4, 3, 3, 1)}},
		{below, impl.SumOnce, []impl.Row{row(1, 4, 0, 3, 1), row(1, 4, 3, 0, 1), row(1, 4, 3, 3, -1), row(1, 8, 0, 0, 1)}},
		{below, impl.SumLeast, []impl.Row{row(1, 4, 0, 3, 1), row(1, 4, 3, 0, 1), row(1, 4, 3, 3, -1), row(1, 8, 0, 0, 1), row(1, 8, 0, 3, -1), row(1, 8, 3, 0, -1), row(1, 8, 3, 3, 1)}},
		{[]impl.Row{row(3, 9, 1, 1, -1)}, impl.SumCount, []impl.Row{row(3, 99, 1, 1, 1)}},
		{[]impl.Row{row(3, 9, 1, 1, -1)}, impl.SumOnce, nil},
		{[]impl.Row{row(3, 9, 1, 1, -1)}, impl.SumLeast, nil},
		{[]impl.Row{row(3, 9, 1, 1, 100)}, impl.SumCount, []impl.Row{row(3, 0, 1, 1, 1)}},
		{[]impl.Row{row(3, 9, 1, 1, 1), row(3, 9, 2, 2, 100)}, impl.SumCount, []impl.Row{row(3, 1, 1, 1, 1)}},
		{[]impl.Row{row(3, 9, 1, 1, 1), row(3, 8, 2, 2, -1)}, impl.SumCount, []impl.Row{row(3, 1, 1, 1, 1), row(3, 1, 2, 2, -1)}},
		{[]impl.Row{row(3, 9, 1, 1, 1), row(3, 9, 1, 1, -1)}, impl.SumOnce, nil},
		{[]impl.Row{row(3, 9, 1, 1, 1), row(3, 9, 2, 1, 5)}, impl.SumOnce, []impl.Row{row(3, 9, 1, 1, 1)}},
		{[]impl.Row{row(3, 9, 1, 1, 5), row(3, 9, 2, 1, -5), row(3, 9, 3, 1, -1), row(3, 9, 4, 1, 2)}, impl.SumOnce, []impl.Row{row(3, 9, 1, 1, 1), row(3, 9, 2, 1, -1), row(3, 9, 4, 1, 1)}},
		{[]impl.Row{row(3, 9, 0, 0, 1), row(3, 0, 4, 4, 1), row(3, 0, 5, 5, -1)}, impl.SumLeast, []impl.Row{row(3, 0, 4, 4, 1), row(3, 0, 5, 5, -1), row(3, 9, 0, 0, 1), row(3, 9, 4, 4, -1), row(3, 9, 5, 5, 1)}},
		{[]impl.Row{row(3, 9, 0, 0, 1), row(2, 9, 0, 0, 1), row(0, 9, 0, 0, 1), row(1, 9, 0, 0, 1)}, impl.SumLeast, []impl.Row{row(0, 9, 0, 0, 1), row(1, 9, 0, 0, 1), row(2, 9, 0, 0, 1), row(3, 9, 0, 0, 1)}},
	}
	for _, c := range cases {
		if got := impl.FlowSum(c.a, c.kind); !slices.Equal(got, c.want) {
			t.Errorf("FlowSum of %s of kind %d is %s", some(c.a), c.kind, some(got))
		}
	}
}

// Diffs of rows may be too much together where a sum is not: it is of what is there.
func TestFlowSumOfDiffsThatAreTooMuchTogether(t *testing.T) {
	most := slices.Repeat([]impl.Row{row(1, 5, 2, 2, diffMost)}, rowsMost)
	if got := impl.FlowSum(most, impl.SumCount); !slices.Equal(got, []impl.Row{row(1, 0, 2, 2, 1)}) {
		t.Errorf("SumCount is %v", got)
	}
	if got := impl.FlowSum(most[1:], impl.SumCount); !slices.Equal(got, []impl.Row{row(1, 1, 2, 2, 1)}) {
		t.Errorf("SumCount is %v", got)
	}
	if got := impl.FlowSum(most, impl.SumOnce); !slices.Equal(got, []impl.Row{row(1, 5, 2, 2, 1)}) {
		t.Errorf("SumOnce is %v", got)
	}
	if got := impl.FlowSum(most, impl.SumLeast); !slices.Equal(got, []impl.Row{row(1, 5, 2, 2, 1)}) {
		t.Errorf("SumLeast is %v", got)
	}
	if got := impl.FlowSum(wantLess(most[1:]), impl.SumCount); !slices.Equal(got, []impl.Row{row(1, 99, 2, 2, 1)}) {
		t.Errorf("SumCount of less is %v", got)
	}
}

func TestFlowSumOfAsManyRowsAsCanBe(t *testing.T) {
	count400 := slices.Concat(squareRows(0, 8, 8), squareRows(1, 6, 8), squareRows(2, 1, 4), squareRows(3, 1, 2))
	least400 := slices.Concat(slopeRows(0, count), slopeRows(1, 48), slopeRows(2, 4), slopeRows(3, 2))
	once399 := forkRows(133)
	cases := []struct {
		name string
		a    []impl.Row
		kind int
		size int
	}{
		{"counts of a square", squareRows(0, 8, 8), impl.SumCount, 225},
		{"counts, as many", count400, impl.SumCount, 400},
		{"counts, one more", append(slices.Clone(count400), row(3, 7, 0, 2, -2)), impl.SumCount, 401},
		{"counts, many more", slices.Concat(squareRows(0, 8, 8), squareRows(1, 8, 8), squareRows(2, 8, 8), squareRows(3, 8, 8)), impl.SumCount, 900},
		{"the least of a slope", slopeRows(0, count), impl.SumLeast, 225},
		{"the least, as many", least400, impl.SumLeast, 400},
		{"the least, one more", append(slices.Clone(least400), row(3, 98, 0, 2, -1), row(3, 99, 0, 2, -1)), impl.SumLeast, 401},
		{"the least, many more", slices.Concat(slopeRows(0, count), slopeRows(1, count), slopeRows(2, count), slopeRows(3, count)), impl.SumLeast, 900},
		{"once, one less", once399, impl.SumOnce, 399},
		{"once, as many", append(slices.Clone(once399), row(3, 0, 0, 0, 1)), impl.SumOnce, 400},
		{"once, one more", append(slices.Clone(once399), row(3, 0, 0, 0, 1), row(3, 1, 0, 0, 1)), impl.SumOnce, 401},
		{"once, many more", forkRows(rowsMost / 2), impl.SumOnce, 600},
		{"once, of rows that are more each time", manyRows(count, 1), impl.SumOnce, 1},
	}
	for _, c := range cases {
		got := impl.FlowSum(c.a, c.kind)
		want, _ := wantFlowSum(c.a, c.kind)
		if size := sizeOf(sumRows(c.a, c.kind)); size != c.size || !slices.Equal(got, want) {
			t.Errorf("%s: %d rows of %d", c.name, len(got), size)
		}
		if (len(got) == c.size) != (c.size <= rowsMost) {
			t.Errorf("%s: %d rows", c.name, len(got))
		}
	}
}

func TestFlowSumOfMany(t *testing.T) {
	for _, kind := range kinds {
		told, joined := 0, 0
		for _, a := range flowLists() {
			want, ok := wantFlowSum(a, kind)
			if got := impl.FlowSum(a, kind); !slices.Equal(got, want) {
				t.Fatalf("FlowSum of %s of kind %d is %s", some(a), kind, some(got))
			}
			if !ok {
				continue
			}
			told++
			for _, r := range want {
				if !slices.ContainsFunc(a, func(s impl.Row) bool { return s.At == r.At }) {
					joined++
				}
			}
		}
		if told < 250 || joined < 60 {
			t.Errorf("kind %d: %d are told, %d change at joins at which nothing comes in", kind, told, joined)
		}
	}
}

// All that can be of two rows of two values of one key, and of a few times, three of them apart.
func TestFlowSumOfAllFewRows(t *testing.T) {
	times := []impl.Time{at(0, 0), at(0, 2), at(1, 1), at(2, 0), at(2, 2)}
	var few []impl.Row
	for _, s := range times {
		for _, diff := range []int{-1, 1, 2} {
			few = append(few, row(1, 3, s.A, s.B, diff), row(1, 6, s.A, s.B, diff))
		}
	}
	for _, r := range few {
		for _, s := range few {
			a := []impl.Row{r, s, row(1, 6, 1, 1, -1)}
			for _, kind := range kinds {
				want, _ := wantFlowSum(a, kind)
				if got := impl.FlowSum(a, kind); !slices.Equal(got, want) {
					t.Fatalf("FlowSum of %v of kind %d is %v", a, kind, got)
				}
			}
		}
	}
}

// flowMakers are all that make rows of changes, of one list, or of one and another.
func flowMakers(other []impl.Row) map[string]func([]impl.Row) []impl.Row {
	makers := map[string]func([]impl.Row) []impl.Row{
		"FlowJoin":             func(a []impl.Row) []impl.Row { return impl.FlowJoin(a, other) },
		"FlowJoin, second":     func(a []impl.Row) []impl.Row { return impl.FlowJoin(other, a) },
		"FlowJoin with itself": func(a []impl.Row) []impl.Row { return impl.FlowJoin(a, a) },
	}
	for how := range len(ways) + 2 {
		makers["FlowEach by "+strconv.Itoa(how)] = func(a []impl.Row) []impl.Row { return impl.FlowEach(a, how) }
	}
	for kind := range len(kinds) + 2 {
		makers["FlowSum of kind "+strconv.Itoa(kind)] = func(a []impl.Row) []impl.Row { return impl.FlowSum(a, kind) }
	}
	return makers
}

func TestWrongRowsAreNoChanges(t *testing.T) {
	good := []impl.Row{row(0, 1, 1, 3, 2), row(1, 5, 3, 3, 1), row(3, 0, 2, 2, -4), row(1, 5, 0, 0, 1)}
	for _, bad := range badLists() {
		for name, maker := range flowMakers(good) {
			if got := maker(bad); len(got) != 0 {
				t.Errorf("%s of %s is %s", name, some(bad), some(got))
			}
		}
		for key := -1; key <= keys; key++ {
			if got := impl.FlowTimes(bad, key); len(got) != 0 {
				t.Errorf("FlowTimes of %s of %d is %v", some(bad), key, got)
			}
		}
		for _, r := range bad {
			if got := impl.FlowTimes(bad, r.Key); len(got) != 0 {
				t.Errorf("FlowTimes of %s of %d is %v", some(bad), r.Key, got)
			}
		}
	}
}
