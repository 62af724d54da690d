package tests

import (
	"math"
	"slices"
	"testing"

	"loop.example/tideline/impl"
)

func TestWaysHaveTheirNumbers(t *testing.T) {
	if !slices.Equal(ways, []int{1, 2, 3, 4, 5, 6, 7}) {
		t.Error(ways)
	}
}

func TestSetOk(t *testing.T) {
	good := [][]impl.Item{
		{item(0, 0, countMost), item(3, 99, -countMost)},
		{item(0, 99, 1), item(1, 0, 1)},
		{item(0, 98, 1), item(0, 99, -1)},
		{item(1, 5, 2), item(2, 4, 1)},
		allItems(1),
		allItems(-countMost),
		allItems(1)[:399],
	}
	for _, s := range append(good, itemLists()...) {
		if !impl.SetOk(s) {
			t.Errorf("not ok: %s", some(s))
		}
	}
	for _, s := range badSets() {
		if impl.SetOk(s) {
			t.Errorf("ok: %s", some(s))
		}
	}
}

func TestSetOkOfAllPairsOfAFew(t *testing.T) {
	few := []impl.Item{item(0, 0, 1), item(0, 1, 1), item(0, 99, 1), item(1, 0, 1), item(1, 1, 1), item(1, 99, 1), item(3, 0, 1)}
	for i, x := range few {
		for j, y := range few {
			if impl.SetOk([]impl.Item{x, y}) != (i < j) {
				t.Errorf("%v and %v", x, y)
			}
		}
	}
}

// Counts of BatchAt are far from their limit, so what is told of rows may be asked as items.
func TestWhatIsThereIsOk(t *testing.T) {
	most := slices.Repeat([]impl.Row{row(2, 7, 1, 1, diffMost)}, rowsMost)
	for _, list := range append(rowLists(), most, wantLess(most)) {
		for _, s := range allTimes() {
			if got := impl.BatchAt(list, s); !impl.SetOk(got) {
				t.Fatalf("BatchAt of %s at %s is %s", some(list), tell(s), some(got))
			}
		}
	}
}

func TestSetEach(t *testing.T) {
	cases := []struct {
		s    []impl.Item
		how  int
		want []impl.Item
	}{
		{[]impl.Item{item(0, 0, 1)}, impl.MapSwap, []impl.Item{item(0, 0, 1)}},
		{[]impl.Item{item(3, 0, 1)}, impl.MapSwap, []impl.Item{item(0, 3, 1)}},
		{[]impl.Item{item(0, 99, -2)}, impl.MapSwap, []impl.Item{item(3, 96, -2)}},
		{[]impl.Item{item(3, 99, 5)}, impl.MapSwap, []impl.Item{item(3, 99, 5)}},
		{[]impl.Item{item(2, 37, 5)}, impl.MapSwap, []impl.Item{item(1, 38, 5)}},
		{[]impl.Item{item(0, 98, 1), item(0, 99, 2)}, impl.MapNext, []impl.Item{item(0, 0, 2), item(0, 99, 1)}},
		{[]impl.Item{item(3, 0, -1), item(3, 99, 2)}, impl.MapNext, []impl.Item{item(3, 0, 2), item(3, 1, -1)}},
		{[]impl.Item{item(0, 6, 1), item(1, 6, 2), item(3, 6, -4)}, impl.MapKey, []impl.Item{item(2, 6, -1)}},
		{[]impl.Item{item(0, 99, 1), item(1, 99, -1)}, impl.MapKey, nil},
		{[]impl.Item{item(0, 97, 1), item(2, 0, 1)}, impl.MapKey, []impl.Item{item(0, 0, 1), item(1, 97, 1)}},
		{[]impl.Item{item(0, 3, 1), item(1, 3, 2), item(2, 3, -3), item(3, 4, 5)}, impl.MapOne, []impl.Item{item(0, 4, 5)}},
		{[]impl.Item{item(1, 7, 1), item(3, 2, -1)}, impl.MapOne, []impl.Item{item(0, 2, -1), item(0, 7, 1)}},
		{[]impl.Item{item(1, 0, 1), item(1, 1, 1), item(1, 98, -1), item(1, 99, 1)}, impl.KeepEven, []impl.Item{item(1, 0, 1), item(1, 98, -1)}},
		{[]impl.Item{item(0, 1, 1), item(1, 2, 1), item(2, 3, -1), item(3, 4, 1)}, impl.KeepKey, []impl.Item{item(0, 1, 1), item(2, 3, -1)}},
		{[]impl.Item{item(0, 0, 1), item(1, 9, -1), item(2, 10, 1), item(3, 99, 1)}, impl.KeepLow, []impl.Item{item(0, 0, 1), item(1, 9, -1)}},
	}
	for _, c := range cases {
		if got := impl.SetEach(c.s, c.how); !slices.Equal(got, c.want) {
			t.Errorf("SetEach of %s by %d is %s", some(c.s), c.how, some(got))
		}
	}
}

func TestSetEachOfEachThing(t *testing.T) {
	for _, how := range ways {
		for _, x := range allItems(-7) {
			key, val, kept := wantWay(x.Key, x.Val, how)
			var want []impl.Item
			if kept {
				want = []impl.Item{item(key, val, -7)}
			}
			if got := impl.SetEach([]impl.Item{x}, how); !slices.Equal(got, want) {
				t.Errorf("SetEach of %v by %d is %v", x, how, got)
			}
		}
		for _, s := range itemLists() {
			if got := impl.SetEach(s, how); !slices.Equal(got, wantEach(s, how)) {
				t.Errorf("SetEach of %s by %d is %s", some(s), how, some(got))
			}
		}
	}
}

func TestSetEachByAWayThatIsNoneIsNothing(t *testing.T) {
	for _, how := range []int{0, 8, -1, 9, 100, math.MinInt, math.MaxInt, 1 << 32, 1<<32 + 1} {
		for _, s := range append(sampleItems(), badSets()...) {
			if got := impl.SetEach(s, how); len(got) != 0 {
				t.Errorf("SetEach of %s by %d is %s", some(s), how, some(got))
			}
		}
	}
}

func TestSetBoth(t *testing.T) {
	full := allItems(1)
	cases := []struct{ s, u, want []impl.Item }{
		{nil, nil, nil},
		{[]impl.Item{item(1, 5, 2)}, []impl.Item{item(1, 5, 3)}, []impl.Item{item(1, 5, 5)}},
		{[]impl.Item{item(1, 5, 2)}, []impl.Item{item(1, 5, -2)}, nil},
		{[]impl.Item{item(1, 5, 2)}, []impl.Item{item(1, 5, -3)}, []impl.Item{item(1, 5, -1)}},
		{[]impl.Item{item(1, 5, 2), item(2, 0, 1)}, []impl.Item{item(0, 99, 1), item(1, 6, 1)}, []impl.Item{item(0, 99, 1), item(1, 5, 2), item(1, 6, 1), item(2, 0, 1)}},
		{full[:200], full[200:], full},
		{full, full, allItems(2)},
		{full, allItems(-1), nil},
		{[]impl.Item{item(1, 5, countMost-1)}, []impl.Item{item(1, 5, 1)}, []impl.Item{item(1, 5, countMost)}},
		{[]impl.Item{item(1, 5, countMost)}, []impl.Item{item(1, 5, -countMost)}, nil},
	}
	for _, c := range cases {
		if got := impl.SetBoth(c.s, c.u); !slices.Equal(got, c.want) {
			t.Errorf("SetBoth of %s and %s is %s", some(c.s), some(c.u), some(got))
		}
	}
	sets := itemLists()
	for i, s := range sets {
		for _, place := range []int{i, (i + 1) % len(sets), (i*7 + 3) % len(sets), (i*31 + 5) % len(sets)} {
			if got := impl.SetBoth(s, sets[place]); !slices.Equal(got, wantBoth(s, sets[place])) {
				t.Errorf("SetBoth of %s and %s is %s", some(s), some(sets[place]), some(got))
			}
		}
	}
}

func TestSetLess(t *testing.T) {
	for _, s := range itemLists() {
		if got := impl.SetLess(s); !slices.Equal(got, wantLessItems(s)) {
			t.Errorf("SetLess of %s is %s", some(s), some(got))
		}
	}
}

// Only what comes in has a limit: the document has what is told be all together, and nothing only of what is not ok.
func TestCountsBeyondTheLimitAreTold(t *testing.T) {
	most, least := []impl.Item{item(1, 5, countMost)}, []impl.Item{item(1, 5, -countMost)}
	cases := []struct {
		name      string
		got, want []impl.Item
	}{
		{"SetBoth, one more", impl.SetBoth(most, []impl.Item{item(1, 5, 1)}), []impl.Item{item(1, 5, countMost+1)}},
		{"SetBoth, one less", impl.SetBoth([]impl.Item{item(1, 5, -1)}, least), []impl.Item{item(1, 5, -countMost-1)}},
		{"SetBoth, twice", impl.SetBoth(most, most), []impl.Item{item(1, 5, 2*countMost)}},
		{"SetBoth, all twice", impl.SetBoth(allItems(countMost), allItems(countMost)), allItems(2 * countMost)},
		{"MapOne", impl.SetEach(allItems(countMost), impl.MapOne), allItems(4 * countMost)[:vals]},
		{"MapKey", impl.SetEach([]impl.Item{item(0, 7, -countMost), item(1, 7, -1)}, impl.MapKey), []impl.Item{item(3, 7, -countMost-1)}},
		{"SetJoin", impl.SetJoin(most, []impl.Item{item(1, 5, 2)}), []impl.Item{item(1, 55, 2*countMost)}},
		{"SetJoin, less", impl.SetJoin(least, []impl.Item{item(1, 5, 3)}), []impl.Item{item(1, 55, -3*countMost)}},
		{"SetJoin, up to the greatest int", impl.SetJoin(most, []impl.Item{item(1, 5, 1<<23-1)}), []impl.Item{item(1, 55, math.MaxInt-countMost+1)}},
		{"SetJoin, the least int", impl.SetJoin(most, []impl.Item{item(1, 5, -1<<23)}), []impl.Item{item(1, 55, math.MinInt)}},
	}
	for _, c := range cases {
		if !slices.Equal(c.got, c.want) || impl.SetOk(c.got) {
			t.Errorf("%s is %s", c.name, some(c.got))
		}
	}
}

func TestSetJoin(t *testing.T) {
	cases := []struct{ s, u, want []impl.Item }{
		{[]impl.Item{item(1, 3, 2)}, []impl.Item{item(1, 7, 5)}, []impl.Item{item(1, 37, 10)}},
		{[]impl.Item{item(1, 7, 5)}, []impl.Item{item(1, 3, 2)}, []impl.Item{item(1, 73, 10)}},
		{[]impl.Item{item(1, 3, -2)}, []impl.Item{item(1, 7, 5)}, []impl.Item{item(1, 37, -10)}},
		{[]impl.Item{item(1, 3, -2)}, []impl.Item{item(1, 7, -5)}, []impl.Item{item(1, 37, 10)}},
		{[]impl.Item{item(1, 3, 2)}, []impl.Item{item(2, 7, 5)}, nil},
		{[]impl.Item{item(0, 99, 1)}, []impl.Item{item(0, 99, 1)}, []impl.Item{item(0, 89, 1)}},
		{[]impl.Item{item(3, 9, 1)}, []impl.Item{item(3, 10, 1)}, []impl.Item{item(3, 0, 1)}},
		{[]impl.Item{item(3, 10, 1)}, []impl.Item{item(3, 9, 1)}, []impl.Item{item(3, 9, 1)}},
		{[]impl.Item{item(1, 3, 1), item(1, 13, 1)}, []impl.Item{item(1, 7, 2)}, []impl.Item{item(1, 37, 4)}},
		{[]impl.Item{item(1, 3, 1), item(1, 13, -1)}, []impl.Item{item(1, 7, 2)}, nil},
		{[]impl.Item{item(1, 3, 1), item(1, 4, -1)}, []impl.Item{item(1, 7, 2), item(1, 17, 1)}, []impl.Item{item(1, 37, 2), item(1, 47, -1), item(1, 57, -1)}},
		{[]impl.Item{item(0, 1, 2), item(1, 1, 3)}, []impl.Item{item(0, 2, 5), item(1, 2, 7)}, []impl.Item{item(0, 12, 10), item(1, 12, 21)}},
		{allItems(1), allItems(1), allItems(100)},
		{allItems(1), allItems(-2), allItems(-200)},
		{[]impl.Item{item(2, 0, countMost)}, []impl.Item{item(2, 0, 1)}, []impl.Item{item(2, 0, countMost)}},
		{[]impl.Item{item(2, 0, 1<<20)}, []impl.Item{item(2, 0, -1<<20)}, []impl.Item{item(2, 0, -countMost)}},
	}
	for _, c := range cases {
		if got := impl.SetJoin(c.s, c.u); !slices.Equal(got, c.want) {
			t.Errorf("SetJoin of %s and %s is %s", some(c.s), some(c.u), some(got))
		}
	}
}

// What is no int cannot be told, and a number that has wrapped round would tell something else.
func TestSetJoinOfWhatIsNoIntIsNothing(t *testing.T) {
	most, least := []impl.Item{item(1, 5, countMost)}, []impl.Item{item(1, 5, -countMost)}
	for _, c := range []struct{ s, u []impl.Item }{
		{most, most},
		{most, least},
		{least, most},
		{least, least},
		{most, []impl.Item{item(1, 5, 1<<23)}},
		{least, []impl.Item{item(1, 5, -1<<23)}},
		{most, []impl.Item{item(1, 5, -1<<23-1)}},
		{[]impl.Item{item(1, 5, countMost-1)}, []impl.Item{item(1, 5, countMost-1)}},
		{[]impl.Item{item(0, 1, 1), item(1, 5, countMost)}, []impl.Item{item(0, 1, 1), item(1, 5, 1<<24+1)}},
		{[]impl.Item{item(1, 5, countMost), item(1, 15, countMost)}, []impl.Item{item(1, 5, 1<<22)}},
		{allItems(countMost), allItems(countMost)},
	} {
		if got := impl.SetJoin(c.s, c.u); len(got) != 0 {
			t.Errorf("SetJoin of %s and %s is %s", some(c.s), some(c.u), some(got))
		}
	}
}

func TestSetJoinNoIntOnTheWayIsNotTooMuch(t *testing.T) {
	cases := []struct{ s, u, want []impl.Item }{
		{[]impl.Item{item(1, 3, countMost), item(1, 13, -countMost), item(1, 23, 1)}, []impl.Item{item(1, 7, countMost)}, []impl.Item{item(1, 37, countMost)}},
		{[]impl.Item{item(1, 3, -countMost), item(1, 13, countMost)}, []impl.Item{item(1, 7, countMost)}, nil},
		{[]impl.Item{item(1, 3, countMost), item(1, 13, 1-countMost)}, []impl.Item{item(1, 7, -countMost)}, []impl.Item{item(1, 37, -countMost)}},
		{[]impl.Item{item(1, 3, countMost), item(1, 13, -1)}, []impl.Item{item(1, 7, 1<<23-1), item(1, 17, countMost)}, nil},
		{[]impl.Item{item(1, 3, countMost), item(1, 13, -1)}, []impl.Item{item(1, 7, 1<<23)}, []impl.Item{item(1, 37, math.MaxInt-1<<23+1)}},
	}
	for _, c := range cases {
		if got := impl.SetJoin(c.s, c.u); !slices.Equal(got, c.want) {
			t.Errorf("SetJoin of %s and %s is %s", some(c.s), some(c.u), some(got))
		}
	}
}

func TestSetJoinOfMany(t *testing.T) {
	sets := itemLists()
	told, none := 0, 0
	for i, s := range sets {
		for _, place := range []int{i, (i + 1) % len(sets), (i*7 + 3) % len(sets), (i*31 + 5) % len(sets)} {
			want, ok := wantJoin(s, sets[place])
			if got := impl.SetJoin(s, sets[place]); !slices.Equal(got, want) {
				t.Errorf("SetJoin of %s and %s is %s", some(s), some(sets[place]), some(got))
			}
			if ok && len(want) > 0 {
				told++
			} else if !ok {
				none++
			}
		}
	}
	if told < 200 || none < 20 {
		t.Errorf("%d joins are told, %d are no int", told, none)
	}
}

func TestSetCount(t *testing.T) {
	cases := []struct{ s, want []impl.Item }{
		{nil, nil},
		{[]impl.Item{item(2, 50, 1)}, []impl.Item{item(2, 1, 1)}},
		{[]impl.Item{item(2, 50, 99)}, []impl.Item{item(2, 99, 1)}},
		{[]impl.Item{item(2, 50, 100)}, []impl.Item{item(2, 0, 1)}},
		{[]impl.Item{item(2, 50, 101)}, []impl.Item{item(2, 1, 1)}},
		{[]impl.Item{item(2, 50, -1)}, []impl.Item{item(2, 99, 1)}},
		{[]impl.Item{item(2, 50, -99)}, []impl.Item{item(2, 1, 1)}},
		{[]impl.Item{item(2, 50, -100)}, []impl.Item{item(2, 0, 1)}},
		{[]impl.Item{item(2, 50, -101)}, []impl.Item{item(2, 99, 1)}},
		{[]impl.Item{item(2, 50, countMost)}, []impl.Item{item(2, 76, 1)}},
		{[]impl.Item{item(2, 50, -countMost)}, []impl.Item{item(2, 24, 1)}},
		{[]impl.Item{item(2, 50, 3), item(2, 60, -3)}, nil},
		{[]impl.Item{item(2, 50, 3), item(2, 60, -4)}, []impl.Item{item(2, 99, 1)}},
		{[]impl.Item{item(0, 5, 2), item(1, 5, -2), item(3, 5, 7)}, []impl.Item{item(0, 2, 1), item(1, 98, 1), item(3, 7, 1)}},
		{allItems(1), []impl.Item{item(0, 0, 1), item(1, 0, 1), item(2, 0, 1), item(3, 0, 1)}},
	}
	for _, c := range cases {
		if got := impl.SetCount(c.s); !slices.Equal(got, c.want) {
			t.Errorf("SetCount of %s is %s", some(c.s), some(got))
		}
	}
}

func TestSetOnce(t *testing.T) {
	cases := []struct{ s, want []impl.Item }{
		{nil, nil},
		{[]impl.Item{item(2, 50, 1)}, []impl.Item{item(2, 50, 1)}},
		{[]impl.Item{item(2, 50, countMost)}, []impl.Item{item(2, 50, 1)}},
		{[]impl.Item{item(2, 50, -1)}, nil},
		{[]impl.Item{item(2, 50, -countMost), item(2, 51, 2)}, []impl.Item{item(2, 51, 1)}},
		{[]impl.Item{item(0, 1, 5), item(1, 1, -5), item(1, 2, 1), item(3, 0, 2)}, []impl.Item{item(0, 1, 1), item(1, 2, 1), item(3, 0, 1)}},
		{allItems(countMost), allItems(1)},
		{allItems(-1), nil},
	}
	for _, c := range cases {
		if got := impl.SetOnce(c.s); !slices.Equal(got, c.want) {
			t.Errorf("SetOnce of %s is %s", some(c.s), some(got))
		}
	}
}

func TestSetLeast(t *testing.T) {
	cases := []struct{ s, want []impl.Item }{
		{nil, nil},
		{[]impl.Item{item(2, 50, 9)}, []impl.Item{item(2, 50, 1)}},
		{[]impl.Item{item(2, 50, -9)}, nil},
		{[]impl.Item{item(2, 50, -9), item(2, 51, 9), item(2, 52, 1)}, []impl.Item{item(2, 51, 1)}},
		{[]impl.Item{item(2, 0, -1), item(2, 1, -1), item(2, 99, 1)}, []impl.Item{item(2, 99, 1)}},
		{[]impl.Item{item(0, 9, 1), item(1, 8, 1), item(1, 9, 1), item(2, 0, -1), item(3, 0, 1), item(3, 7, 1)}, []impl.Item{item(0, 9, 1), item(1, 8, 1), item(3, 0, 1)}},
		{allItems(countMost), []impl.Item{item(0, 0, 1), item(1, 0, 1), item(2, 0, 1), item(3, 0, 1)}},
		{allItems(-1), nil},
	}
	for _, c := range cases {
		if got := impl.SetLeast(c.s); !slices.Equal(got, c.want) {
			t.Errorf("SetLeast of %s is %s", some(c.s), some(got))
		}
	}
}

func TestWrongItemsAreNothing(t *testing.T) {
	good := []impl.Item{item(0, 1, 2), item(1, 5, 1), item(3, 0, -4)}
	for _, bad := range badSets() {
		for name, maker := range itemMakers(good) {
			if got := maker(bad); len(got) != 0 {
				t.Errorf("%s of %s is %s", name, some(bad), some(got))
			}
		}
	}
}
