package tests

import (
	"slices"
	"testing"

	"loop.example/tideline/impl"
)

func itemsEverywhere(list []impl.Row) [][]impl.Item {
	var all [][]impl.Item
	for _, s := range allTimes() {
		all = append(all, impl.BatchAt(list, s))
	}
	return all
}

// What is too much together is nothing, and says nothing: the promises are of rows that are not.
func TestPromise13BatchOfIsABatchAndSaysWhatTheRowsSay(t *testing.T) {
	told := 0
	for _, list := range rowLists() {
		batch := impl.BatchOf(list)
		want, ok := wantBatch(list)
		if !impl.BatchOk(batch) || !slices.Equal(batch, want) {
			t.Fatalf("BatchOf of %s is %s", some(list), some(batch))
		}
		if !ok {
			continue
		}
		told++
		before := itemsEverywhere(list)
		for i, s := range allTimes() {
			if got := impl.BatchAt(batch, s); !slices.Equal(got, before[i]) || !slices.Equal(got, wantItems(list, s)) {
				t.Fatalf("BatchOf of %s says %v at %s", some(list), got, tell(s))
			}
		}
	}
	if told < 150 {
		t.Errorf("only %d lists are not too much together", told)
	}
}

func TestPromise14ABatchIsItsOwnAndNothingElseIs(t *testing.T) {
	check := func(list []impl.Row) {
		t.Helper()
		own := impl.BatchOf(list)
		if impl.BatchOk(list) != slices.Equal(own, list) {
			t.Errorf("%s: a batch %t, its own %s", some(list), impl.BatchOk(list), some(own))
		}
	}
	for _, list := range append(rowLists(), badLists()...) {
		check(list)
		batch := impl.BatchOf(list)
		check(batch)
		if !slices.Equal(impl.BatchOf(batch), batch) {
			t.Errorf("%s is not its own", some(batch))
		}
		for i := range min(len(batch), 5) {
			check(append(slices.Clone(batch), batch[i]))
			check(slices.Insert(slices.Clone(batch), i, row(1, 5, 3, 3, 0)))
			swapped := slices.Clone(batch)
			swapped[i], swapped[len(batch)-1-i] = swapped[len(batch)-1-i], swapped[i]
			check(swapped)
		}
	}
	few := []impl.Row{row(0, 0, 0, 1, 1), row(0, 0, 1, 0, -1), row(0, 1, 0, 0, 0), row(0, 1, 0, 0, 99999), row(1, 0, 0, 0, 1)}
	for _, r := range few {
		for _, s := range few {
			for _, u := range few {
				check([]impl.Row{r, s, u})
			}
		}
	}
}

// mixed is the same rows in another order.
func mixed(list []impl.Row, s *steps) []impl.Row {
	other := slices.Clone(list)
	for i := range other {
		j := s.below(i + 1)
		other[i], other[j] = other[j], other[i]
	}
	return other
}

func TestPromise15ItDoesNotMatterInWhichOrderRowsStand(t *testing.T) {
	s := steps(15)
	f := []impl.Time{at(1, 3), at(3, 1)}
	for _, list := range rowLists() {
		back := slices.Clone(list)
		slices.Reverse(back)
		for _, other := range [][]impl.Row{back, mixed(list, &s), mixed(list, &s)} {
			if impl.RowsOk(list) != impl.RowsOk(other) || !slices.Equal(impl.BatchOf(list), impl.BatchOf(other)) {
				t.Fatalf("BatchOf of %s", some(list))
			}
			if !slices.Equal(impl.BatchBoth(list, back), impl.BatchBoth(other, list)) || !slices.Equal(impl.BatchLess(list), impl.BatchLess(other)) || !slices.Equal(impl.BatchMove(list, f), impl.BatchMove(other, f)) {
				t.Fatalf("what is made of %s", some(list))
			}
			if !slices.Equal(impl.BatchAt(list, at(2, 5)), impl.BatchAt(other, at(2, 5))) || !slices.Equal(impl.BatchTimes(list), impl.BatchTimes(other)) {
				t.Fatalf("what is told of %s", some(list))
			}
		}
	}
}

func TestPromise15TooMuchOnTheWayIsNotTooMuch(t *testing.T) {
	list := []impl.Row{row(0, 0, 0, 0, 99999), row(0, 0, 0, 0, 99999), row(0, 0, 0, 0, -99999), row(0, 0, 0, 0, -99999), row(0, 0, 0, 1, 1)}
	s := steps(16)
	for range 200 {
		other := mixed(list, &s)
		if got := impl.BatchOf(other); !slices.Equal(got, list[4:]) {
			t.Errorf("BatchOf of %v is %v", other, got)
		}
	}
}

func TestPromise16ItDoesNotMatterWhichIsFirst(t *testing.T) {
	lists := rowLists()
	for i, a := range lists {
		own := impl.BatchOf(a)
		if !slices.Equal(impl.BatchBoth(a, nil), own) || !slices.Equal(impl.BatchBoth(nil, a), own) || !slices.Equal(impl.BatchBoth([]impl.Row{}, a), own) {
			t.Errorf("BatchBoth of %s with nothing", some(a))
		}
		for _, place := range []int{i, (i + 1) % len(lists), (i*7 + 3) % len(lists)} {
			b := lists[place]
			if one, other := impl.BatchBoth(a, b), impl.BatchBoth(b, a); !slices.Equal(one, other) {
				t.Errorf("BatchBoth of %s and %s is %s, or %s", some(a), some(b), some(one), some(other))
			}
		}
	}
	for _, bad := range badLists() {
		if len(impl.BatchBoth(bad, nil)) != 0 || len(impl.BatchBoth(nil, bad)) != 0 {
			t.Errorf("BatchBoth of %s with nothing", some(bad))
		}
	}
}

func TestPromise17MovedRowsSayTheSameOfCoveredTimes(t *testing.T) {
	ups, fronts := upsets(), fewFronts()
	told := 0
	for _, list := range rowLists() {
		if len(list) > 40 {
			continue
		}
		before := itemsEverywhere(list)
		for _, f := range fronts {
			moved := impl.BatchMove(list, f)
			want, ok := wantBatch(wantMoved(list, f))
			if !impl.BatchOk(moved) || !slices.Equal(moved, want) {
				t.Fatalf("BatchMove of %s by %v is %s", some(list), f, some(moved))
			}
			if !ok {
				continue
			}
			told++
			cover := coverOf(ups, f)
			for i, s := range allTimes() {
				if holds(cover, s) && !slices.Equal(impl.BatchAt(moved, s), before[i]) {
					t.Fatalf("BatchMove of %s by %v is %s, which says something else at %s", some(list), f, some(moved), tell(s))
				}
			}
		}
	}
	if told < 3000 {
		t.Errorf("only %d moves are not too much together", told)
	}
}

func TestPromise18MovedTwiceIsMovedOnce(t *testing.T) {
	fronts := fewFronts()
	for _, list := range rowLists() {
		own := impl.BatchOf(list)
		for _, f := range fronts {
			once := impl.BatchMove(list, f)
			if twice := impl.BatchMove(once, f); !slices.Equal(twice, once) {
				t.Fatalf("BatchMove of %s by %v is %s, then %s", some(list), f, some(once), some(twice))
			}
			if len(once) > len(list) || len(impl.BatchMove(own, f)) > len(own) {
				t.Fatalf("BatchMove of %s by %v is more: %s", some(list), f, some(once))
			}
		}
		if !slices.Equal(impl.BatchMove(list, nil), own) {
			t.Fatalf("BatchMove of %s to no time", some(list))
		}
	}
}

func TestPromise18MovedToOneTimeRowsAreAtItOrBehindIt(t *testing.T) {
	for _, list := range rowLists() {
		for _, s := range allTimes() {
			for _, r := range impl.BatchMove(list, []impl.Time{s}) {
				if r.At.A < s.A || r.At.B < s.B {
					t.Fatalf("BatchMove of %s to %s has %v", some(list), tell(s), r)
				}
			}
		}
	}
}

// Where rows are too much on the way, one side is nothing that the other need not be; elsewhere they are the same.
func TestPromise19BothMovedAreMovedTogether(t *testing.T) {
	lists, fronts := rowLists(), fewFronts()
	told := 0
	for i, a := range lists {
		b := lists[(i*7+3)%len(lists)]
		if len(a)+len(b) > 60 {
			continue
		}
		if _, ok := wantBatch(a, b); !ok {
			continue
		}
		for _, f := range fronts {
			_, okA := wantBatch(wantMoved(a, f))
			_, okB := wantBatch(wantMoved(b, f))
			if !okA || !okB {
				continue
			}
			told++
			together := impl.BatchMove(impl.BatchBoth(a, b), f)
			if each := impl.BatchBoth(impl.BatchMove(a, f), impl.BatchMove(b, f)); !slices.Equal(together, each) {
				t.Fatalf("%s and %s by %v: %s together, %s each", some(a), some(b), f, some(together), some(each))
			}
			if want, _ := wantBatch(wantMoved(a, f), wantMoved(b, f)); !slices.Equal(together, want) {
				t.Fatalf("%s and %s by %v: %s", some(a), some(b), f, some(together))
			}
		}
	}
	if told < 1000 {
		t.Errorf("only %d moves are not too much on the way", told)
	}
}

func TestPromise19RowsThatComeTogetherWhenMoved(t *testing.T) {
	f := []impl.Time{at(1, 3), at(3, 1)}
	a := []impl.Row{row(1, 5, 0, 0, 2), row(1, 6, 2, 2, 1)}
	b := []impl.Row{row(1, 5, 1, 0, -2), row(1, 6, 0, 2, 1), row(1, 6, 2, 0, 1)}
	want := []impl.Row{row(1, 6, 1, 2, 1), row(1, 6, 2, 1, 1), row(1, 6, 2, 2, 1)}
	together := impl.BatchMove(impl.BatchBoth(a, b), f)
	each := impl.BatchBoth(impl.BatchMove(a, f), impl.BatchMove(b, f))
	if !slices.Equal(together, want) || !slices.Equal(each, want) {
		t.Errorf("%v together, %v each", together, each)
	}
}

func TestPromise20AheadOfAllTimesOfRowsThereIsNothing(t *testing.T) {
	empty := 0
	for _, list := range rowLists() {
		front := impl.FrontOf(impl.BatchTimes(list))
		for _, r := range list {
			if !impl.FrontCovers(front, r.At) {
				t.Fatalf("%v is no time of %s", r.At, some(list))
			}
		}
		for _, s := range allTimes() {
			if impl.FrontCovers(front, s) {
				continue
			}
			empty++
			if got := impl.BatchAt(list, s); len(got) != 0 {
				t.Fatalf("BatchAt of %s at %s is %v", some(list), tell(s), got)
			}
		}
	}
	if empty == 0 {
		t.Error("no time is ahead of any rows")
	}
}
