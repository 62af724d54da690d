package tests

import (
	"fmt"
	"math"
	"slices"
	"testing"

	"loop.example/tideline/impl"
)

// some is a list as a test tells it: not all of many.
func some[T any](list []T) string {
	if len(list) > 12 {
		return fmt.Sprintf("%d of them, first %v", len(list), list[:12])
	}
	return fmt.Sprintf("%v", list)
}

func TestLimitsOfRows(t *testing.T) {
	if impl.RowKeys != keys || impl.RowVals != vals || impl.RowDiff != diffMost || impl.RowMax != rowsMost {
		t.Error(impl.RowKeys, impl.RowVals, impl.RowDiff, impl.RowMax)
	}
}

func TestRowsOk(t *testing.T) {
	for _, list := range rowLists() {
		if !impl.RowsOk(list) {
			t.Errorf("not ok: %s", some(list))
		}
	}
	for _, r := range edgeRows() {
		if !impl.RowsOk([]impl.Row{r}) {
			t.Errorf("not ok: %v", r)
		}
	}
	for _, list := range badLists() {
		if impl.RowsOk(list) {
			t.Errorf("ok: %s", some(list))
		}
	}
}

func TestBatchOk(t *testing.T) {
	good := [][]impl.Row{
		nil,
		{},
		{row(0, 0, 0, 0, -99999)},
		{row(3, 99, 7, 7, 99999)},
		{row(0, 9, 7, 7, 1), row(1, 0, 0, 0, 1)},
		{row(0, 8, 7, 7, 1), row(0, 9, 0, 0, 1)},
		{row(0, 9, 1, 7, 1), row(0, 9, 2, 0, 1)},
		{row(0, 9, 1, 6, 1), row(0, 9, 1, 7, 1)},
		manyRows(rowsMost, 1),
		manyRows(rowsMost, -diffMost),
	}
	for _, list := range good {
		if !impl.BatchOk(list) {
			t.Errorf("none: %s", some(list))
		}
	}
	full := manyRows(rowsMost, 1)
	last := slices.Clone(full)
	last[rowsMost-1] = last[rowsMost-2]
	bad := [][]impl.Row{
		{row(1, 0, 0, 0, 1), row(0, 9, 7, 7, 1)},
		{row(0, 9, 0, 0, 1), row(0, 8, 7, 7, 1)},
		{row(0, 9, 2, 0, 1), row(0, 9, 1, 7, 1)},
		{row(0, 9, 1, 7, 1), row(0, 9, 1, 6, 1)},
		{row(1, 5, 3, 3, 0)},
		{row(0, 5, 3, 3, 1), row(1, 5, 3, 3, 0)},
		{row(1, 5, 3, 3, 1), row(1, 5, 3, 3, 1)},
		{row(1, 5, 3, 3, 1), row(1, 5, 3, 3, 2)},
		{row(1, 5, 3, 3, 2), row(1, 5, 3, 3, -2)},
		{row(0, 1, 0, 0, 1), row(2, 1, 0, 0, 1), row(1, 1, 0, 0, 1)},
		last,
	}
	for _, list := range append(bad, badLists()...) {
		if impl.BatchOk(list) {
			t.Errorf("one: %s", some(list))
		}
	}
}

func TestBatchOkOfAllPairsOfAFew(t *testing.T) {
	var few []impl.Row
	for i := range 16 {
		few = append(few, row(i/8, i/4%2, i/2%2, i%2, 1))
	}
	for i, r := range few {
		for j, s := range few {
			if impl.BatchOk([]impl.Row{r, s}) != (i < j) {
				t.Errorf("%v and %v", r, s)
			}
		}
	}
}

func TestBatchOf(t *testing.T) {
	cases := []struct{ list, want []impl.Row }{
		{nil, nil},
		{[]impl.Row{row(1, 5, 2, 2, 0)}, nil},
		{[]impl.Row{row(1, 5, 2, 2, 3), row(1, 5, 2, 2, -3)}, nil},
		{[]impl.Row{row(1, 5, 2, 2, 3), row(1, 5, 2, 2, -1), row(1, 5, 2, 2, -2), row(1, 5, 2, 3, 1)}, []impl.Row{row(1, 5, 2, 3, 1)}},
		{[]impl.Row{row(1, 5, 2, 0, 1), row(0, 9, 0, 0, 2), row(1, 5, 2, 0, 1), row(1, 5, 0, 1, -1)}, []impl.Row{row(0, 9, 0, 0, 2), row(1, 5, 0, 1, -1), row(1, 5, 2, 0, 2)}},
		{[]impl.Row{row(0, 0, 1, 0, 1), row(0, 0, 0, 1, 1), row(0, 1, 0, 0, 1), row(1, 0, 0, 0, 1)}, []impl.Row{row(0, 0, 0, 1, 1), row(0, 0, 1, 0, 1), row(0, 1, 0, 0, 1), row(1, 0, 0, 0, 1)}},
		{[]impl.Row{row(0, 0, 0, 0, 99998), row(0, 0, 0, 0, 1)}, []impl.Row{row(0, 0, 0, 0, 99999)}},
		{[]impl.Row{row(0, 0, 0, 0, 99999), row(0, 0, 0, 0, 99999), row(0, 0, 0, 0, -99999)}, []impl.Row{row(0, 0, 0, 0, 99999)}},
		{[]impl.Row{row(0, 0, 0, 0, -99999), row(0, 0, 0, 0, -1), row(0, 0, 0, 0, 1)}, []impl.Row{row(0, 0, 0, 0, -99999)}},
		{manyRows(rowsMost, 1), manyRows(rowsMost, 1)},
		{slices.Repeat([]impl.Row{row(2, 7, 1, 1, 2)}, rowsMost), []impl.Row{row(2, 7, 1, 1, 2*rowsMost)}},
	}
	for _, c := range cases {
		if got := impl.BatchOf(c.list); !slices.Equal(got, c.want) {
			t.Errorf("BatchOf of %s is %s", some(c.list), some(got))
		}
	}
}

func TestBatchOfTooMuchTogetherIsNothing(t *testing.T) {
	for _, list := range [][]impl.Row{
		{row(0, 0, 0, 0, 99999), row(0, 0, 0, 0, 1)},
		{row(0, 0, 0, 0, -1), row(0, 0, 0, 0, -99999)},
		{row(0, 0, 0, 0, 1), row(1, 1, 1, 1, 50000), row(2, 2, 2, 2, 1), row(1, 1, 1, 1, 50000)},
		slices.Repeat([]impl.Row{row(2, 7, 1, 1, 99999)}, rowsMost),
	} {
		if got := impl.BatchOf(list); len(got) != 0 {
			t.Errorf("BatchOf of %s is %s", some(list), some(got))
		}
		if got := impl.BatchLess(list); len(got) != 0 {
			t.Errorf("BatchLess of %s is %s", some(list), some(got))
		}
		if got := impl.BatchMove(list, nil); len(got) != 0 {
			t.Errorf("BatchMove of %s is %s", some(list), some(got))
		}
		if got := impl.BatchBoth(list, nil); len(got) != 0 {
			t.Errorf("BatchBoth of %s with nothing is %s", some(list), some(got))
		}
	}
}

func TestBatchAt(t *testing.T) {
	list := []impl.Row{row(1, 5, 2, 0, 2), row(0, 9, 0, 0, 2), row(1, 5, 0, 1, -1), row(1, 4, 0, 1, 7), row(0, 9, 3, 3, -2), row(2, 0, 1, 1, 0)}
	cases := []struct {
		s    impl.Time
		want []impl.Item
	}{
		{at(0, 0), []impl.Item{item(0, 9, 2)}},
		{at(1, 0), []impl.Item{item(0, 9, 2)}},
		{at(2, 0), []impl.Item{item(0, 9, 2), item(1, 5, 2)}},
		{at(1, 1), []impl.Item{item(0, 9, 2), item(1, 4, 7), item(1, 5, -1)}},
		{at(2, 1), []impl.Item{item(0, 9, 2), item(1, 4, 7), item(1, 5, 1)}},
		{at(7, 7), []impl.Item{item(1, 4, 7), item(1, 5, 1)}},
	}
	for _, c := range cases {
		if got := impl.BatchAt(list, c.s); !slices.Equal(got, c.want) {
			t.Errorf("BatchAt %s is %v", tell(c.s), got)
		}
	}
	if got := impl.BatchAt(nil, at(0, 0)); len(got) != 0 {
		t.Errorf("BatchAt of no rows is %v", got)
	}
}

func TestBatchAtAllTimes(t *testing.T) {
	for _, list := range rowLists() {
		for _, s := range allTimes() {
			if got := impl.BatchAt(list, s); !slices.Equal(got, wantItems(list, s)) {
				t.Fatalf("BatchAt of %s at %s is %v", some(list), tell(s), got)
			}
		}
	}
}

// A count is no Diff: only rows are bounded.
func TestBatchAtCountsBeyondTheLimitOfADiff(t *testing.T) {
	list := slices.Repeat([]impl.Row{row(2, 7, 1, 1, 99999)}, rowsMost)
	if got := impl.BatchAt(list, at(1, 1)); !slices.Equal(got, []impl.Item{item(2, 7, 39999600)}) {
		t.Errorf("rows of one time: %v", got)
	}
	apart := []impl.Row{row(2, 7, 0, 1, -99999), row(2, 7, 1, 0, -99999)}
	if got := impl.BatchAt(apart, at(1, 1)); !slices.Equal(got, []impl.Item{item(2, 7, -199998)}) {
		t.Errorf("rows of two times: %v", got)
	}
}

func TestBatchAtAWrongTimeIsNothing(t *testing.T) {
	for _, list := range [][]impl.Row{nil, edgeRows(), manyRows(rowsMost, 1)} {
		for _, s := range badTimes() {
			if got := impl.BatchAt(list, s); len(got) != 0 {
				t.Errorf("BatchAt of %s at %s is %v", some(list), tell(s), got)
			}
		}
	}
}

func TestBatchBoth(t *testing.T) {
	full := manyRows(rowsMost, 1)
	cases := []struct{ a, b, want []impl.Row }{
		{nil, nil, nil},
		{[]impl.Row{row(1, 5, 2, 0, 1)}, []impl.Row{row(1, 5, 2, 0, 2)}, []impl.Row{row(1, 5, 2, 0, 3)}},
		{[]impl.Row{row(1, 5, 2, 0, 1)}, []impl.Row{row(1, 5, 2, 0, -1)}, nil},
		{[]impl.Row{row(1, 5, 2, 0, 1)}, []impl.Row{row(1, 5, 1, 0, 1)}, []impl.Row{row(1, 5, 1, 0, 1), row(1, 5, 2, 0, 1)}},
		{[]impl.Row{row(2, 0, 0, 0, 1), row(0, 0, 0, 0, 1)}, []impl.Row{row(1, 0, 0, 0, 0), row(1, 1, 0, 0, 1), row(0, 0, 0, 0, 1)}, []impl.Row{row(0, 0, 0, 0, 2), row(1, 1, 0, 0, 1), row(2, 0, 0, 0, 1)}},
		{[]impl.Row{row(0, 0, 0, 0, 99999), row(0, 0, 0, 0, 99999)}, []impl.Row{row(0, 0, 0, 0, -99999)}, []impl.Row{row(0, 0, 0, 0, 99999)}},
		{full[:200], full[200:], full},
		{full, full, manyRows(rowsMost, 2)},
		{full, manyRows(rowsMost, -1), nil},
		{full, manyRows(rowsMost, 0), full},
		{full, []impl.Row{row(0, 0, 0, 0, -1)}, full[1:]},
	}
	for _, c := range cases {
		if got := impl.BatchBoth(c.a, c.b); !slices.Equal(got, c.want) {
			t.Errorf("BatchBoth of %s and %s is %s", some(c.a), some(c.b), some(got))
		}
	}
}

func TestBatchBothTooMuchTogetherIsNothing(t *testing.T) {
	more := manyRows(rowsMost+1, 1)
	for _, c := range []struct{ a, b []impl.Row }{
		{[]impl.Row{row(0, 0, 0, 0, 99999)}, []impl.Row{row(0, 0, 0, 0, 1)}},
		{[]impl.Row{row(0, 0, 0, 0, -99999), row(1, 1, 1, 1, 1)}, []impl.Row{row(0, 0, 0, 0, -1)}},
		{more[:rowsMost], more[rowsMost:]},
		{more[:1], more[1:]},
		{more[:201], more[201:]},
		{manyRows(rowsMost, 1), []impl.Row{row(3, 99, 7, 7, 1)}},
	} {
		if got := impl.BatchBoth(c.a, c.b); len(got) != 0 {
			t.Errorf("BatchBoth of %s and %s is %s", some(c.a), some(c.b), some(got))
		}
	}
}

func TestBatchBothOfMany(t *testing.T) {
	lists := rowLists()
	for i, a := range lists {
		for _, place := range []int{i, (i + 1) % len(lists), (i*7 + 3) % len(lists), (i*31 + 5) % len(lists)} {
			b := lists[place]
			want, _ := wantBatch(a, b)
			if got := impl.BatchBoth(a, b); !slices.Equal(got, want) {
				t.Fatalf("BatchBoth of %s and %s is %s", some(a), some(b), some(got))
			}
		}
	}
}

func TestBatchLess(t *testing.T) {
	cases := []struct{ a, want []impl.Row }{
		{nil, nil},
		{[]impl.Row{row(1, 5, 2, 0, 0)}, nil},
		{[]impl.Row{row(1, 5, 2, 0, 2), row(1, 5, 2, 0, -2)}, nil},
		{[]impl.Row{row(1, 5, 2, 0, -99999), row(0, 5, 2, 0, 99999)}, []impl.Row{row(0, 5, 2, 0, -99999), row(1, 5, 2, 0, 99999)}},
		{[]impl.Row{row(1, 5, 2, 0, 2), row(1, 5, 2, 0, 3)}, []impl.Row{row(1, 5, 2, 0, -5)}},
		{manyRows(rowsMost, 1), manyRows(rowsMost, -1)},
	}
	for _, c := range cases {
		if got := impl.BatchLess(c.a); !slices.Equal(got, c.want) {
			t.Errorf("BatchLess of %s is %s", some(c.a), some(got))
		}
	}
	for _, list := range rowLists() {
		want, _ := wantBatch(wantLess(list))
		if got := impl.BatchLess(list); !slices.Equal(got, want) {
			t.Fatalf("BatchLess of %s is %s", some(list), some(got))
		}
	}
}

func TestBatchMove(t *testing.T) {
	two := []impl.Time{at(1, 3), at(3, 1)}
	cases := []struct {
		a    []impl.Row
		f    []impl.Time
		want []impl.Row
	}{
		{nil, two, nil},
		{nil, nil, nil},
		{[]impl.Row{row(1, 5, 2, 0, 1), row(1, 5, 0, 2, 1)}, nil, []impl.Row{row(1, 5, 0, 2, 1), row(1, 5, 2, 0, 1)}},
		{[]impl.Row{row(1, 5, 0, 0, 1)}, two, []impl.Row{row(1, 5, 1, 1, 1)}},
		{[]impl.Row{row(1, 5, 0, 0, 1), row(1, 5, 1, 1, 2), row(1, 5, 0, 1, 4)}, two, []impl.Row{row(1, 5, 1, 1, 7)}},
		{[]impl.Row{row(1, 5, 0, 0, 1), row(1, 5, 1, 0, -1)}, two, nil},
		{[]impl.Row{row(1, 5, 0, 0, 1), row(1, 5, 1, 0, -1), row(1, 4, 1, 0, -1)}, two, []impl.Row{row(1, 4, 1, 1, -1)}},
		{[]impl.Row{row(1, 5, 0, 7, 1), row(1, 5, 7, 0, 2)}, two, []impl.Row{row(1, 5, 1, 7, 1), row(1, 5, 7, 1, 2)}},
		{[]impl.Row{row(1, 5, 0, 7, 1), row(1, 5, 7, 0, 2)}, []impl.Time{at(7, 7)}, []impl.Row{row(1, 5, 7, 7, 3)}},
		{[]impl.Row{row(0, 0, 0, 0, 99999), row(0, 0, 0, 0, 99999), row(0, 0, 1, 0, -99999)}, []impl.Time{at(1, 0)}, []impl.Row{row(0, 0, 1, 0, 99999)}},
		{[]impl.Row{row(0, 0, 0, 0, 99999), row(0, 0, 1, 0, 1)}, []impl.Time{at(1, 0)}, nil},
		{[]impl.Row{row(0, 0, 0, 0, -99999), row(0, 0, 1, 0, -1), row(3, 3, 3, 3, 1)}, []impl.Time{at(1, 0)}, nil},
		{manyRows(rowsMost, 1)[:count], []impl.Time{at(7, 7)}, []impl.Row{row(0, 0, 7, 7, count)}},
		{manyRows(rowsMost, 1), []impl.Time{at(0, 0)}, manyRows(rowsMost, 1)},
	}
	for _, c := range cases {
		if got := impl.BatchMove(c.a, c.f); !slices.Equal(got, c.want) {
			t.Errorf("BatchMove of %s by %v is %s", some(c.a), c.f, some(got))
		}
	}
}

func TestBatchMoveByAWrongFrontIsNothing(t *testing.T) {
	for why, f := range badFronts() {
		for _, list := range [][]impl.Row{nil, {row(1, 5, 3, 3, 1)}, edgeRows()} {
			if got := impl.BatchMove(list, f); len(got) != 0 {
				t.Errorf("%s: BatchMove of %s by %v is %s", why, some(list), f, some(got))
			}
		}
	}
}

func TestBatchTimes(t *testing.T) {
	cases := []struct {
		a    []impl.Row
		want []impl.Time
	}{
		{nil, nil},
		{[]impl.Row{row(1, 5, 2, 0, 1), row(0, 9, 0, 7, 2), row(3, 5, 2, 0, 1), row(1, 5, 1, 0, -1), row(1, 6, 1, 3, -1)}, []impl.Time{at(0, 7), at(1, 0), at(1, 3), at(2, 0)}},
		{[]impl.Row{row(1, 5, 7, 7, 1), row(1, 5, 0, 0, 1)}, []impl.Time{at(0, 0), at(7, 7)}},
		{manyRows(rowsMost, 1), allTimes()},
	}
	for _, c := range cases {
		if got := impl.BatchTimes(c.a); !slices.Equal(got, c.want) {
			t.Errorf("BatchTimes of %s is %v", some(c.a), got)
		}
	}
}

// All times of rows are those of all rows, also of such as are 0, or cancel one another.
func TestBatchTimesAreOfAllRows(t *testing.T) {
	cancel := []impl.Row{row(1, 5, 2, 0, 1), row(1, 5, 2, 0, -1), row(1, 5, 1, 1, 0)}
	if got := impl.BatchTimes(cancel); !slices.Equal(got, []impl.Time{at(1, 1), at(2, 0)}) {
		t.Errorf("BatchTimes of %v is %v", cancel, got)
	}
	for _, list := range rowLists() {
		var want []impl.Time
		for _, s := range allTimes() {
			if slices.ContainsFunc(list, func(r impl.Row) bool { return r.At == s }) {
				want = append(want, s)
			}
		}
		if got := impl.BatchTimes(list); !slices.Equal(got, want) {
			t.Fatalf("BatchTimes of %s is %v", some(list), got)
		}
	}
}

func TestWrongRowsAreNothing(t *testing.T) {
	good := []impl.Row{row(0, 1, 1, 3, 2), row(3, 0, 2, 2, -4)}
	for _, bad := range badLists() {
		answers := map[string][]impl.Row{
			"BatchOf":                   impl.BatchOf(bad),
			"BatchBoth, first":          impl.BatchBoth(bad, good),
			"BatchBoth, second":         impl.BatchBoth(good, bad),
			"BatchBoth, with nothing":   impl.BatchBoth(bad, nil),
			"BatchBoth, behind nothing": impl.BatchBoth(nil, bad),
			"BatchBoth, with itself":    impl.BatchBoth(bad, bad),
			"BatchLess":                 impl.BatchLess(bad),
			"BatchMove":                 impl.BatchMove(bad, []impl.Time{at(1, 3), at(3, 1)}),
			"BatchMove, to the last":    impl.BatchMove(bad, []impl.Time{at(7, 7)}),
			"BatchMove, to no time":     impl.BatchMove(bad, nil),
		}
		for name, got := range answers {
			if len(got) != 0 {
				t.Errorf("%s of %s is %s", name, some(bad), some(got))
			}
		}
		for _, s := range []impl.Time{at(0, 0), at(3, 3), at(7, 7), at(8, 8), at(math.MaxInt, math.MaxInt)} {
			if got := impl.BatchAt(bad, s); len(got) != 0 {
				t.Errorf("BatchAt of %s at %s is %v", some(bad), tell(s), got)
			}
		}
		if got := impl.BatchTimes(bad); len(got) != 0 {
			t.Errorf("BatchTimes of %s is %v", some(bad), got)
		}
	}
}
