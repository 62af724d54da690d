package tests

import (
	"slices"
	"testing"

	"loop.example/tideline/impl"
)

// partners are, for each list of a kind, some to ask of beside it: itself, and others that are not the same for all.
func partners[T any](lists [][]T, i int) [][]T {
	n := len(lists)
	return [][]T{lists[i], lists[(i+1)%n], lists[(i*7+3)%n], lists[(i*31+5)%n], lists[(i*53+11)%n]}
}

// Rows that are too much together are nothing, and say nothing: the promise is of rows that are not.
func TestPromise21BatchBothSaysWhatBothSayTogether(t *testing.T) {
	lists := rowLists()
	told := 0
	for i, a := range lists {
		for _, b := range partners(lists, i) {
			if _, ok := wantBatch(a, b); !ok {
				continue
			}
			told++
			both, all := impl.BatchBoth(a, b), slices.Concat(a, b)
			for _, s := range allTimes() {
				got := impl.BatchAt(both, s)
				if each := impl.SetBoth(impl.BatchAt(a, s), impl.BatchAt(b, s)); !slices.Equal(got, each) || !slices.Equal(got, wantItems(all, s)) {
					t.Fatalf("%s and %s at %s: %s together, %s each", some(a), some(b), tell(s), some(got), some(each))
				}
			}
		}
	}
	if told < 400 {
		t.Errorf("only %d are not too much together", told)
	}
}

func TestPromise22BatchLessTakesAwayWhatTheRowsSay(t *testing.T) {
	told := 0
	for _, a := range rowLists() {
		less := impl.BatchLess(a)
		if got := impl.BatchBoth(a, less); len(got) != 0 {
			t.Fatalf("of %s there is left %s", some(a), some(got))
		}
		if got := impl.BatchBoth(less, a); len(got) != 0 {
			t.Fatalf("of %s there is left %s", some(a), some(got))
		}
		if _, ok := wantBatch(a); !ok {
			continue
		}
		told++
		for _, s := range allTimes() {
			there, gone := impl.BatchAt(a, s), impl.BatchAt(less, s)
			if !slices.Equal(gone, impl.SetLess(there)) || !slices.Equal(gone, wantItems(wantLess(a), s)) || len(impl.SetBoth(there, gone)) != 0 {
				t.Fatalf("BatchLess of %s at %s is %s", some(a), tell(s), some(gone))
			}
		}
	}
	if told < 150 {
		t.Errorf("only %d are not too much together", told)
	}
}

func TestPromise23AtAnyTimeItIsAsAtTheJoinOfTheTimesOfRows(t *testing.T) {
	earlier := 0
	for _, a := range rowLists() {
		for _, s := range allTimes() {
			// Where no row is not later, there is nothing at the first time either.
			join := at(0, 0)
			for _, r := range a {
				if impl.TimeLess(r.At, s) {
					join = impl.TimeJoin(join, r.At)
				}
			}
			if join != s {
				earlier++
			}
			if got, want := impl.BatchAt(a, s), impl.BatchAt(a, join); !slices.Equal(got, want) {
				t.Fatalf("%s: %s at %s, %s at %s", some(a), some(got), tell(s), some(want), tell(join))
			}
		}
	}
	if earlier == 0 {
		t.Error("no join is earlier")
	}
}

func TestPromise24MapSwapDoneTwiceChangesNothing(t *testing.T) {
	for _, s := range itemLists() {
		once := impl.SetEach(s, impl.MapSwap)
		if twice := impl.SetEach(once, impl.MapSwap); !slices.Equal(twice, s) || len(once) != len(s) {
			t.Errorf("%s is swapped to %s, then %s", some(s), some(once), some(twice))
		}
	}
	for _, x := range allItems(-3) {
		s := []impl.Item{x}
		if twice := impl.SetEach(impl.SetEach(s, impl.MapSwap), impl.MapSwap); !slices.Equal(twice, s) {
			t.Errorf("%v swapped twice is %v", x, twice)
		}
	}
}

func TestPromise25WhatIsKeptWasThereAndIsKeptAgain(t *testing.T) {
	for _, how := range keeps {
		for _, s := range itemLists() {
			kept := impl.SetEach(s, how)
			for _, x := range kept {
				if !slices.Contains(s, x) {
					t.Errorf("%v is kept of %s by %d", x, some(s), how)
				}
			}
			if again := impl.SetEach(kept, how); !slices.Equal(again, kept) {
				t.Errorf("of %s there is kept by %d %s, then %s", some(s), how, some(kept), some(again))
			}
			if !slices.Equal(kept, wantEach(s, how)) {
				t.Errorf("of %s there is kept by %d %s", some(s), how, some(kept))
			}
		}
	}
}

func TestPromise26SetBothIsItemsWhicheverIsFirst(t *testing.T) {
	sets := itemLists()
	for i, s := range sets {
		if !slices.Equal(impl.SetBoth(s, nil), s) || !slices.Equal(impl.SetBoth(nil, s), s) || !slices.Equal(impl.SetBoth([]impl.Item{}, s), s) {
			t.Errorf("SetBoth of %s with nothing", some(s))
		}
		for _, u := range partners(sets, i) {
			if one, other := impl.SetBoth(s, u), impl.SetBoth(u, s); !slices.Equal(one, other) {
				t.Errorf("SetBoth of %s and %s is %s, or %s", some(s), some(u), some(one), some(other))
			}
		}
	}
	small := smallItems()
	for i, s := range small {
		for _, u := range partners(small, i) {
			if got := impl.SetBoth(s, u); !impl.SetOk(got) || !slices.Equal(got, wantBoth(s, u)) {
				t.Errorf("SetBoth of %s and %s is %s", some(s), some(u), some(got))
			}
		}
	}
}

func TestPromise27TakenAwayTwiceIsThere(t *testing.T) {
	for _, s := range itemLists() {
		less := impl.SetLess(s)
		if twice := impl.SetLess(less); !slices.Equal(twice, s) || !impl.SetOk(less) {
			t.Errorf("%s taken away is %s, twice %s", some(s), some(less), some(twice))
		}
		if len(impl.SetBoth(s, less)) != 0 || len(impl.SetBoth(less, s)) != 0 {
			t.Errorf("of %s there is left %s", some(s), some(impl.SetBoth(s, less)))
		}
	}
}

// What is too much on the way is not ok, and nothing is made of it: this promise, and those on pairs, are asked of small items.
func TestPromise28WhatIsMadeOfTwoTogetherIsWhatIsMadeOfEach(t *testing.T) {
	sets := smallItems()
	for i, s := range sets {
		for _, u := range partners(sets, i) {
			both := impl.SetBoth(s, u)
			for _, how := range ways {
				together := impl.SetEach(both, how)
				if each := impl.SetBoth(impl.SetEach(s, how), impl.SetEach(u, how)); !slices.Equal(together, each) {
					t.Errorf("of %s and %s by %d: %s together, %s each", some(s), some(u), how, some(together), some(each))
				}
			}
			if each := impl.SetBoth(impl.SetLess(s), impl.SetLess(u)); !slices.Equal(impl.SetLess(both), each) {
				t.Errorf("SetLess of %s and %s: %s each", some(s), some(u), some(each))
			}
		}
	}
}

func TestPromise29PairsOfTwoTogetherArePairsOfEach(t *testing.T) {
	sets := smallItems()
	told := 0
	for i, s := range sets {
		for j, u := range partners(sets, i) {
			v := sets[(i*13+j*29+1)%len(sets)]
			both := impl.SetBoth(s, u)
			first, second := impl.SetJoin(both, v), impl.SetJoin(v, both)
			if each := impl.SetBoth(impl.SetJoin(s, v), impl.SetJoin(u, v)); !slices.Equal(first, each) {
				t.Errorf("%s and %s with %s: %s together, %s each", some(s), some(u), some(v), some(first), some(each))
			}
			if each := impl.SetBoth(impl.SetJoin(v, s), impl.SetJoin(v, u)); !slices.Equal(second, each) {
				t.Errorf("%s with %s and %s: %s together, %s each", some(v), some(s), some(u), some(second), some(each))
			}
			if want, _ := wantJoin(both, v); !slices.Equal(first, want) {
				t.Errorf("%s with %s: %s", some(both), some(v), some(first))
			}
			if len(first) > 0 && len(second) > 0 {
				told++
			}
		}
	}
	if told < 200 {
		t.Errorf("only %d have pairs", told)
	}
}

func TestPromise30PairsOfWhatIsTakenAwayAreTakenAway(t *testing.T) {
	sets := smallItems()
	for i, s := range sets {
		for _, u := range partners(sets, i) {
			want := impl.SetLess(impl.SetJoin(s, u))
			if got := impl.SetJoin(impl.SetLess(s), u); !slices.Equal(got, want) {
				t.Errorf("%s, taken away, with %s: %s, not %s", some(s), some(u), some(got), some(want))
			}
			if got := impl.SetJoin(s, impl.SetLess(u)); !slices.Equal(got, want) {
				t.Errorf("%s with %s, taken away: %s, not %s", some(s), some(u), some(got), some(want))
			}
			if got := impl.SetJoin(impl.SetLess(s), impl.SetLess(u)); !slices.Equal(got, impl.SetLess(want)) {
				t.Errorf("%s with %s, both taken away: %s", some(s), some(u), some(got))
			}
		}
	}
}

func hasKey(s []impl.Item, key int) bool {
	return slices.ContainsFunc(s, func(x impl.Item) bool { return x.Key == key })
}

func TestPromise31PairsAreOfKeysThatBothHave(t *testing.T) {
	sets := itemLists()
	for i, s := range sets {
		if len(impl.SetJoin(s, nil)) != 0 || len(impl.SetJoin(nil, s)) != 0 || len(impl.SetJoin(s, []impl.Item{})) != 0 {
			t.Errorf("SetJoin of %s with nothing", some(s))
		}
		for _, u := range partners(sets, i) {
			for _, x := range impl.SetJoin(s, u) {
				if !hasKey(s, x.Key) || !hasKey(u, x.Key) {
					t.Errorf("%v is a pair of %s and %s", x, some(s), some(u))
				}
			}
		}
	}
	for key := range keys {
		for other := range keys {
			got := impl.SetJoin([]impl.Item{item(key, 3, 2)}, []impl.Item{item(other, 7, -1)})
			if (len(got) == 1) != (key == other) {
				t.Errorf("%d and %d: %v", key, other, got)
			}
		}
	}
}

func TestPromise32ACountIsOfAKeyAndAsMany(t *testing.T) {
	none := 0
	for _, s := range itemLists() {
		counts := impl.SetCount(s)
		var sums [keys]int
		for _, x := range s {
			sums[x.Key] += x.Count
		}
		for key, sum := range sums {
			if hasKey(counts, key) != (sum != 0) {
				t.Errorf("SetCount of %s is %s", some(s), some(counts))
			}
			if hasKey(s, key) && sum == 0 {
				none++
			}
		}
		for i, x := range counts {
			if x.Count != 1 || x.Val < 0 || x.Val >= vals || (sums[x.Key]-x.Val)%vals != 0 || i > 0 && counts[i-1].Key >= x.Key {
				t.Errorf("SetCount of %s is %s", some(s), some(counts))
			}
		}
		if !impl.SetOk(counts) || !slices.Equal(counts, wantCount(s)) {
			t.Errorf("SetCount of %s is %s", some(s), some(counts))
		}
	}
	if none == 0 {
		t.Error("no key has as many more as less")
	}
}

func TestPromise32EachCountFromLessToMore(t *testing.T) {
	for n := -305; n <= 305; n++ {
		s := []impl.Item{item(1, 1, 1000), item(1, 2, n-1000), item(2, 0, 1)}
		want := []impl.Item{item(1, (n+400)%vals, 1), item(2, 1, 1)}
		if n == 0 {
			want = want[1:]
		}
		if got := impl.SetCount(s); !slices.Equal(got, want) {
			t.Errorf("SetCount of %v is %v", s, got)
		}
	}
}

func TestPromise33JustWhatThereIsMoreOfThanNoneIsThereOnce(t *testing.T) {
	for _, s := range itemLists() {
		once := impl.SetOnce(s)
		if !impl.SetOk(once) || !slices.Equal(once, wantOnce(s)) {
			t.Errorf("SetOnce of %s is %s", some(s), some(once))
		}
		for _, x := range s {
			if slices.Contains(once, item(x.Key, x.Val, 1)) != (x.Count > 0) {
				t.Errorf("SetOnce of %s is %s", some(s), some(once))
			}
		}
		if again := impl.SetOnce(once); !slices.Equal(again, once) {
			t.Errorf("SetOnce of %s is %s, then %s", some(s), some(once), some(again))
		}
	}
}

func TestPromise34TheLeastOfEachKeyIsThereAndNothingLessIs(t *testing.T) {
	for _, s := range itemLists() {
		least, once := impl.SetLeast(s), impl.SetOnce(s)
		if !impl.SetOk(least) || !slices.Equal(least, wantLeast(s)) {
			t.Errorf("SetLeast of %s is %s", some(s), some(least))
		}
		for _, x := range least {
			if !slices.Contains(once, x) {
				t.Errorf("%v of SetLeast of %s is not there", x, some(s))
			}
		}
		for _, x := range once {
			if !slices.ContainsFunc(least, func(y impl.Item) bool { return y.Key == x.Key && y.Val <= x.Val }) {
				t.Errorf("SetLeast of %s is %s, and %v is there", some(s), some(least), x)
			}
		}
		if got := impl.SetLeast(once); !slices.Equal(got, least) {
			t.Errorf("SetLeast of %s is %s, of what is there once %s", some(s), some(least), some(got))
		}
	}
}

// Items are doubled as far as they stay ok then.
func TestPromise35DoubledItemsAreOnceAndLeastAsTheyWere(t *testing.T) {
	half := []impl.Item{item(0, 1, countMost/2), item(0, 2, -countMost/2), item(1, 0, -countMost/2), item(1, 7, countMost/2)}
	told := 0
	for _, s := range append(itemLists(), half, allItems(countMost/2)) {
		doubled := impl.SetBoth(s, s)
		if !impl.SetOk(doubled) {
			continue
		}
		told++
		if got := impl.SetOnce(doubled); !slices.Equal(got, impl.SetOnce(s)) || !slices.Equal(got, wantOnce(s)) {
			t.Errorf("SetOnce of %s, doubled, is %s", some(s), some(got))
		}
		if got := impl.SetLeast(doubled); !slices.Equal(got, impl.SetLeast(s)) || !slices.Equal(got, wantLeast(s)) {
			t.Errorf("SetLeast of %s, doubled, is %s", some(s), some(got))
		}
	}
	if told < 100 {
		t.Errorf("only %d are ok when doubled", told)
	}
}
