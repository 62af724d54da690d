package tests

import (
	"slices"
	"testing"

	"loop.example/tideline/impl"
)

func TestThereAreAsManyFrontsAsCanBe(t *testing.T) {
	fronts := allFronts()
	if len(fronts) != 12870 || len(fronts[0]) != 0 {
		t.Fatalf("%d fronts, the first of %d times", len(fronts), len(fronts[0]))
	}
	most := 0
	for _, f := range fronts {
		most = max(most, len(f))
	}
	if most != side {
		t.Errorf("%d times at most", most)
	}
}

func TestFrontOk(t *testing.T) {
	if !impl.FrontOk(nil) || !impl.FrontOk([]impl.Time{}) {
		t.Error("the empty front is none")
	}
	for _, f := range allFronts() {
		if !impl.FrontOk(f) {
			t.Fatalf("%v is none", f)
		}
	}
	for why, f := range badFronts() {
		if impl.FrontOk(f) {
			t.Errorf("%s: %v is one", why, f)
		}
	}
}

func TestFrontOkOfAllPairs(t *testing.T) {
	for _, s := range allTimes() {
		for _, u := range allTimes() {
			if impl.FrontOk([]impl.Time{s, u}) != (s.A < u.A && s.B > u.B) {
				t.Errorf("%s and %s", tell(s), tell(u))
			}
		}
	}
}

func TestFrontOf(t *testing.T) {
	cases := []struct{ list, want []impl.Time }{
		{nil, nil},
		{[]impl.Time{}, nil},
		{[]impl.Time{at(7, 7)}, []impl.Time{at(7, 7)}},
		{[]impl.Time{at(4, 5), at(4, 5), at(4, 5)}, []impl.Time{at(4, 5)}},
		{[]impl.Time{at(2, 2), at(1, 1), at(0, 0)}, []impl.Time{at(0, 0)}},
		{[]impl.Time{at(0, 0), at(1, 1), at(2, 2)}, []impl.Time{at(0, 0)}},
		{[]impl.Time{at(7, 0), at(0, 7)}, []impl.Time{at(0, 7), at(7, 0)}},
		{[]impl.Time{at(5, 1), at(3, 3), at(1, 5), at(3, 3), at(5, 5)}, []impl.Time{at(1, 5), at(3, 3), at(5, 1)}},
		{[]impl.Time{at(5, 1), at(3, 3), at(1, 5), at(2, 1)}, []impl.Time{at(1, 5), at(2, 1)}},
		{[]impl.Time{at(3, 2), at(3, 1), at(3, 4)}, []impl.Time{at(3, 1)}},
	}
	for _, c := range cases {
		if got := impl.FrontOf(c.list); !slices.Equal(got, c.want) {
			t.Errorf("FrontOf of %v is %v", c.list, got)
		}
	}
	if got := impl.FrontOf(allTimes()); !slices.Equal(got, []impl.Time{at(0, 0)}) {
		t.Errorf("FrontOf of all times is %v", got)
	}
}

func TestFrontOfOneWrongTimeIsNothing(t *testing.T) {
	for _, bad := range badTimes() {
		for place := range 4 {
			list := slices.Insert([]impl.Time{at(1, 3), at(2, 2), at(3, 1)}, place, bad)
			if got := impl.FrontOf(list); len(got) != 0 {
				t.Errorf("FrontOf of %v is %v", list, got)
			}
		}
	}
}

func checkFrontOf(t *testing.T, ups [count]uint64, list []impl.Time) {
	t.Helper()
	front := impl.FrontOf(list)
	if !impl.FrontOk(front) {
		t.Errorf("FrontOf of %v is no front: %v", list, front)
	}
	for _, s := range front {
		if !slices.Contains(list, s) {
			t.Errorf("FrontOf of %v has %s", list, tell(s))
		}
	}
	for _, s := range list {
		if !impl.FrontCovers(front, s) {
			t.Errorf("FrontOf of %v does not cover %s", list, tell(s))
		}
	}
	if want := firstsOf(ups, coverOf(ups, list)); !slices.Equal(front, want) {
		t.Errorf("FrontOf of %v is %v, not %v", list, front, want)
	}
}

func TestPromise5FrontOfIsAFrontOfSomeAndCoversAll(t *testing.T) {
	ups := upsets()
	for _, list := range mixedLists() {
		checkFrontOf(t, ups, list)
	}
	for _, s := range allTimes() {
		for _, u := range allTimes() {
			checkFrontOf(t, ups, []impl.Time{s, u})
		}
	}
}

func TestFrontOfDoesNotHangOnTheOrder(t *testing.T) {
	for _, list := range mixedLists() {
		back := slices.Clone(list)
		slices.Reverse(back)
		if got, want := impl.FrontOf(back), impl.FrontOf(list); !slices.Equal(got, want) {
			t.Errorf("FrontOf of %v is %v, and %v the other way round", list, want, got)
		}
	}
}

func TestPromise6TimesAreAFrontJustIfTheyAreTheirOwn(t *testing.T) {
	check := func(list []impl.Time) {
		own := impl.FrontOf(list)
		if impl.FrontOk(list) != slices.Equal(own, list) {
			t.Errorf("%v: a front %t, its own %v", list, impl.FrontOk(list), own)
		}
	}
	for _, f := range allFronts() {
		check(f)
		back := slices.Clone(f)
		slices.Reverse(back)
		check(back)
	}
	for _, f := range badFronts() {
		check(f)
	}
	for _, list := range mixedLists() {
		check(list)
	}
	for _, s := range allTimes() {
		for _, u := range allTimes() {
			check([]impl.Time{s, u})
			check([]impl.Time{at(0, 7), s, u})
			check([]impl.Time{s, u, at(7, 0)})
		}
	}
}

func TestFrontCovers(t *testing.T) {
	ups := upsets()
	for _, f := range allFronts() {
		cover := coverOf(ups, f)
		for _, s := range allTimes() {
			if impl.FrontCovers(f, s) != holds(cover, s) {
				t.Fatalf("FrontCovers of %v and %s", f, tell(s))
			}
		}
	}
}

func TestFrontCoversNoWrongTimeAndByNoWrongFront(t *testing.T) {
	for _, f := range someFronts() {
		for _, s := range badTimes() {
			if impl.FrontCovers(f, s) {
				t.Errorf("%v covers %s", f, tell(s))
			}
		}
	}
	for why, f := range badFronts() {
		for _, s := range allTimes() {
			if impl.FrontCovers(f, s) {
				t.Errorf("%s: %v covers %s", why, f, tell(s))
			}
		}
	}
}

func TestPromise7WhatIsBehindACoveredTimeIsCovered(t *testing.T) {
	for _, f := range allFronts() {
		for _, s := range f {
			if !impl.FrontCovers(f, s) {
				t.Errorf("%v does not cover its own %s", f, tell(s))
			}
		}
	}
	for _, f := range someFronts() {
		for _, s := range allTimes() {
			if !impl.FrontCovers(f, s) {
				continue
			}
			for _, u := range allTimes() {
				if impl.TimeLess(s, u) && !impl.FrontCovers(f, u) {
					t.Errorf("%v covers %s, not %s", f, tell(s), tell(u))
				}
			}
		}
	}
}

func TestFrontMove(t *testing.T) {
	most := []impl.Time{at(0, 7), at(1, 6), at(2, 5), at(3, 4), at(4, 3), at(5, 2), at(6, 1), at(7, 0)}
	cases := []struct {
		f       []impl.Time
		s, want impl.Time
	}{
		{nil, at(5, 6), at(5, 6)},
		{nil, at(0, 0), at(0, 0)},
		{[]impl.Time{at(0, 0)}, at(3, 4), at(3, 4)},
		{[]impl.Time{at(7, 7)}, at(3, 4), at(7, 7)},
		{[]impl.Time{at(2, 5)}, at(4, 1), at(4, 5)},
		{[]impl.Time{at(2, 5)}, at(1, 6), at(2, 6)},
		{[]impl.Time{at(1, 3), at(3, 1)}, at(0, 0), at(1, 1)},
		{[]impl.Time{at(1, 3), at(3, 1)}, at(2, 2), at(2, 2)},
		{[]impl.Time{at(1, 3), at(3, 1)}, at(0, 2), at(1, 2)},
		{[]impl.Time{at(1, 3), at(3, 1)}, at(5, 0), at(5, 1)},
		{[]impl.Time{at(1, 6), at(3, 4), at(5, 2)}, at(0, 0), at(1, 2)},
		{most, at(0, 0), at(0, 0)},
		{most, at(3, 3), at(3, 3)},
		{most, at(7, 7), at(7, 7)},
	}
	for _, c := range cases {
		if got := impl.FrontMove(c.f, c.s); got != c.want {
			t.Errorf("FrontMove of %v and %s is %s", c.f, tell(c.s), tell(got))
		}
	}
}

func TestFrontMoveOfAWrongTimeOrFrontIsNothing(t *testing.T) {
	for _, f := range someFronts() {
		for _, s := range badTimes() {
			if got := impl.FrontMove(f, s); got != at(0, 0) {
				t.Errorf("FrontMove of %v and %s is %s", f, tell(s), tell(got))
			}
		}
	}
	for why, f := range badFronts() {
		for _, s := range allTimes() {
			if got := impl.FrontMove(f, s); got != at(0, 0) {
				t.Errorf("%s: FrontMove of %v and %s is %s", why, f, tell(s), tell(got))
			}
		}
	}
}

func TestPromise8AMovedTimeSaysTheSameOfCoveredTimes(t *testing.T) {
	ups := upsets()
	for _, f := range allFronts() {
		cover := coverOf(ups, f)
		for _, s := range allTimes() {
			moved := impl.FrontMove(f, s)
			if !impl.TimeOk(moved) || ups[placeOf(moved)]&cover != ups[placeOf(s)]&cover {
				t.Fatalf("FrontMove of %v and %s is %s", f, tell(s), tell(moved))
			}
		}
	}
}

// With the empty front all times say the same of none; the document has a time stay there, so it is the last of no others.
func TestPromise9AMovedTimeIsTheLastOfThese(t *testing.T) {
	ups := upsets()
	for _, f := range allFronts()[1:] {
		cover := coverOf(ups, f)
		for _, s := range allTimes() {
			moved := impl.FrontMove(f, s)
			for _, u := range allTimes() {
				same := ups[placeOf(u)]&cover == ups[placeOf(s)]&cover
				if same && !holds(ups[placeOf(u)], moved) {
					t.Fatalf("FrontMove of %v and %s is %s, and %s says the same", f, tell(s), tell(moved), tell(u))
				}
			}
		}
	}
	for _, s := range allTimes() {
		if moved := impl.FrontMove(nil, s); moved != s {
			t.Errorf("FrontMove of nothing and %s is %s", tell(s), tell(moved))
		}
	}
}

func TestPromise10MovedTwiceIsMovedOnceAndACoveredTimeStays(t *testing.T) {
	for _, f := range allFronts() {
		for _, s := range allTimes() {
			moved := impl.FrontMove(f, s)
			if again := impl.FrontMove(f, moved); again != moved {
				t.Fatalf("FrontMove of %v and %s is %s, then %s", f, tell(s), tell(moved), tell(again))
			}
			if impl.FrontCovers(f, s) && moved != s {
				t.Fatalf("FrontMove of %v and %s is %s", f, tell(s), tell(moved))
			}
		}
	}
}

func TestFrontBoth(t *testing.T) {
	f := []impl.Time{at(1, 3), at(3, 1)}
	cases := []struct{ f, g, want []impl.Time }{
		{nil, nil, nil},
		{f, nil, nil},
		{nil, f, nil},
		{f, []impl.Time{at(0, 0)}, f},
		{f, []impl.Time{at(7, 7)}, []impl.Time{at(7, 7)}},
		{f, []impl.Time{at(2, 2)}, []impl.Time{at(2, 3), at(3, 2)}},
		{f, []impl.Time{at(0, 5), at(2, 0)}, []impl.Time{at(1, 5), at(2, 3), at(3, 1)}},
		{[]impl.Time{at(0, 7)}, []impl.Time{at(7, 0)}, []impl.Time{at(7, 7)}},
	}
	for _, c := range cases {
		if got := impl.FrontBoth(c.f, c.g); !slices.Equal(got, c.want) {
			t.Errorf("FrontBoth of %v and %v is %v", c.f, c.g, got)
		}
	}
}

func TestFrontBothOfAWrongFrontIsNothing(t *testing.T) {
	for why, bad := range badFronts() {
		for _, f := range someFronts() {
			if got := impl.FrontBoth(bad, f); len(got) != 0 {
				t.Errorf("%s: FrontBoth of %v and %v is %v", why, bad, f, got)
			}
			if got := impl.FrontBoth(f, bad); len(got) != 0 {
				t.Errorf("%s: FrontBoth of %v and %v is %v", why, f, bad, got)
			}
		}
		if got := impl.FrontBoth(bad, bad); len(got) != 0 {
			t.Errorf("%s: FrontBoth of %v with itself is %v", why, bad, got)
		}
	}
}

func TestPromise11FrontBothCoversJustWhatBothCover(t *testing.T) {
	ups := upsets()
	for _, f := range someFronts() {
		for _, g := range someFronts() {
			both := impl.FrontBoth(f, g)
			if !impl.FrontOk(both) {
				t.Fatalf("FrontBoth of %v and %v is no front: %v", f, g, both)
			}
			if coverOf(ups, both) != coverOf(ups, f)&coverOf(ups, g) {
				t.Errorf("FrontBoth of %v and %v is %v", f, g, both)
			}
			for _, s := range allTimes() {
				if impl.FrontCovers(both, s) != (impl.FrontCovers(f, s) && impl.FrontCovers(g, s)) {
					t.Errorf("FrontBoth of %v and %v, at %s", f, g, tell(s))
				}
			}
		}
	}
}

func TestPromise12ItDoesNotMatterWhichFrontIsFirst(t *testing.T) {
	for _, f := range someFronts() {
		for _, g := range someFronts() {
			if one, other := impl.FrontBoth(f, g), impl.FrontBoth(g, f); !slices.Equal(one, other) {
				t.Errorf("FrontBoth of %v and %v is %v, or %v", f, g, one, other)
			}
		}
	}
	for _, f := range allFronts() {
		if got := impl.FrontBoth(f, f); !slices.Equal(got, f) {
			t.Fatalf("FrontBoth of %v with itself is %v", f, got)
		}
	}
}
