package tests

import (
	"math"
	"runtime"
	"slices"
	"sync"
	"testing"

	"loop.example/tideline/impl"
)

func checkSess(t *testing.T, name string, got impl.Sess, ok bool, want impl.Sess, wantOk bool) {
	t.Helper()
	if ok != wantOk || !sameSess(got, want) {
		t.Errorf("%s: %t, %s, not %t, %s", name, ok, tellSess(got), wantOk, tellSess(want))
	}
}

// balance is a plan at work that makes what is there of the first without the second, of which some is settled at two times neither of which is earlier.
func balance() impl.Sess {
	return sess(planBoth(planIn(0), planLess(planIn(1))),
		[]impl.Time{at(0, 2), at(1, 1)},
		[]impl.Row{row(0, 1, 0, 0, 2), row(0, 1, 1, 0, -1)},
		[]impl.Row{row(0, 1, 0, 0, 2), row(0, 1, 1, 1, 1)},
		[]impl.Row{row(0, 1, 1, 0, 1)})
}

func TestSessNew(t *testing.T) {
	for _, p := range slices.Concat(plansTo(3), deepPlans(60)) {
		got, ok := impl.SessNew(p)
		if want := sess(p, []impl.Time{at(0, 0)}, nil, nil, nil); !ok || !sameSess(got, want) || !impl.SessOk(got) {
			t.Fatalf("SessNew of %s is %t, %s", tellPlan(p), ok, tellSess(got))
		}
	}
}

func TestSessNewOfPlansThatAreNotOk(t *testing.T) {
	for _, p := range badPlans() {
		if got, ok := impl.SessNew(p); ok || !noSess(got) {
			t.Errorf("SessNew of %s is %t, %s", tellPlan(p), ok, tellSess(got))
		}
	}
}

func TestSessOkOfAFew(t *testing.T) {
	made := []impl.Row{row(0, 1, 0, 0, 2), row(0, 1, 1, 0, -1), row(0, 1, 1, 1, 1)}
	for _, c := range []struct {
		name  string
		front []impl.Time
		told  []impl.Row
		ok    bool
	}{
		{"nothing is settled", []impl.Time{at(0, 0)}, nil, true},
		{"nothing is settled, and something is told", []impl.Time{at(0, 0)}, made[:1], false},
		{"some is settled", []impl.Time{at(0, 2), at(1, 1)}, made[:2], true},
		{"some is settled, and too little is told", []impl.Time{at(0, 2), at(1, 1)}, made[:1], false},
		{"some is settled, and too much is told", []impl.Time{at(0, 2), at(1, 1)}, made, false},
		{"at one time", []impl.Time{at(0, 1)}, made[:2], true},
		{"at another one", []impl.Time{at(1, 0)}, made[:1], true},
		{"at both", []impl.Time{at(0, 1), at(1, 0)}, made[:1], true},
		{"at the last time", []impl.Time{at(7, 7)}, made, true},
		{"at the last time, and too little is told", []impl.Time{at(7, 7)}, made[:2], false},
		{"at as many times as can be", []impl.Time{at(0, 7), at(1, 6), at(2, 5), at(3, 4), at(4, 3), at(5, 2), at(6, 1), at(7, 0)}, made, true},
		{"at none", nil, made, true},
		{"at none, and nothing is told", nil, nil, false},
		{"no front", []impl.Time{at(1, 1), at(0, 2)}, made[:2], false},
	} {
		s := balance()
		s.Front, s.Told = c.front, c.told
		if got := impl.SessOk(s); got != c.ok || wantSessOk(s) != c.ok {
			t.Errorf("%s: SessOk of %s is %t", c.name, tellSess(s), got)
		}
	}
}

func TestSessInOfAFew(t *testing.T) {
	s := balance()
	most := row(0, 1, 0, 2, diffMost)
	for _, c := range []struct {
		name  string
		which int
		rows  []impl.Row
		want  []impl.Row
		ok    bool
	}{
		{"at the front", 0, []impl.Row{row(0, 1, 0, 2, 1)}, []impl.Row{row(0, 1, 0, 0, 2), row(0, 1, 0, 2, 1), row(0, 1, 1, 1, 1)}, true},
		{"at the front, more of what is there", 0, []impl.Row{row(0, 1, 1, 1, 4)}, []impl.Row{row(0, 1, 0, 0, 2), row(0, 1, 1, 1, 5)}, true},
		{"at the front, what is there goes", 0, []impl.Row{row(0, 1, 1, 1, -1)}, []impl.Row{row(0, 1, 0, 0, 2)}, true},
		{"at both times of the front", 1, []impl.Row{row(0, 0, 0, 2, 1), row(0, 0, 1, 1, 1)}, []impl.Row{row(0, 0, 0, 2, 1), row(0, 0, 1, 1, 1), row(0, 1, 1, 0, 1)}, true},
		{"behind the front", 1, []impl.Row{row(3, 99, 7, 7, diffMost)}, []impl.Row{row(0, 1, 1, 0, 1), row(3, 99, 7, 7, diffMost)}, true},
		{"behind the first time alone", 1, []impl.Row{row(2, 0, 0, 7, -diffMost)}, []impl.Row{row(0, 1, 1, 0, 1), row(2, 0, 0, 7, -diffMost)}, true},
		{"behind the second time alone", 1, []impl.Row{row(0, 0, 7, 1, 1)}, []impl.Row{row(0, 0, 7, 1, 1), row(0, 1, 1, 0, 1)}, true},
		{"nothing, to the first", 0, nil, s.Ins[0], true},
		{"nothing, to the second", 1, []impl.Row{}, s.Ins[1], true},
		{"as much as can be", 0, []impl.Row{most}, []impl.Row{row(0, 1, 0, 0, 2), most, row(0, 1, 1, 1, 1)}, true},
		{"ahead of the front", 0, []impl.Row{row(0, 1, 0, 1, 1)}, nil, false},
		{"ahead of both times", 0, []impl.Row{row(0, 1, 0, 0, 1)}, nil, false},
		{"where something is told", 1, []impl.Row{row(0, 1, 1, 0, -1)}, nil, false},
		{"far ahead of the front, late in A", 0, []impl.Row{row(0, 1, 7, 0, 1)}, nil, false},
		{"the first row is ahead", 0, []impl.Row{row(0, 1, 0, 1, 1), row(0, 1, 0, 2, 1)}, nil, false},
		{"the last row is ahead", 0, []impl.Row{row(0, 1, 0, 2, 1), row(0, 1, 1, 0, 1)}, nil, false},
		{"a row in the midst is ahead", 1, []impl.Row{row(0, 1, 0, 2, 1), row(0, 1, 1, 0, 1), row(0, 1, 1, 1, 1)}, nil, false},
		{"to none, below", -1, []impl.Row{row(0, 1, 0, 2, 1)}, nil, false},
		{"to none, above", insMost, []impl.Row{row(0, 1, 0, 2, 1)}, nil, false},
		{"nothing to none, below", -1, nil, nil, false},
		{"nothing to none, above", insMost, nil, nil, false},
		{"far below", math.MinInt, []impl.Row{row(0, 1, 0, 2, 1)}, nil, false},
		{"far above", math.MaxInt, []impl.Row{row(0, 1, 0, 2, 1)}, nil, false},
		{"by its low bits the first", 1 << 32, []impl.Row{row(0, 1, 0, 2, 1)}, nil, false},
		{"more than can be summed up", 0, []impl.Row{row(0, 1, 1, 1, diffMost)}, nil, false},
	} {
		got, ok := impl.SessIn(s, c.which, c.rows)
		want := impl.Sess{}
		if c.ok {
			want = balance()
			want.Ins[c.which] = c.want
		}
		checkSess(t, c.name, got, ok, want, c.ok)
		if model, ok := wantSessIn(s, c.which, c.rows); ok != c.ok || !sameSess(model, want) {
			t.Errorf("%s: the model says %t, %s", c.name, ok, tellSess(model))
		}
	}
}

func TestSessOnOfAFew(t *testing.T) {
	s := balance()
	before, all := s.Told, append(slices.Clone(s.Told), row(0, 1, 1, 1, 1))
	came := all[2:]
	for _, c := range []struct {
		name string
		f    []impl.Time
		told []impl.Row
		came []impl.Row
		ok   bool
	}{
		{"the same again", s.Front, before, nil, true},
		{"to its first time", []impl.Time{at(0, 2)}, all, came, true},
		{"to its second time", []impl.Time{at(1, 1)}, before, nil, true},
		{"one time on", []impl.Time{at(0, 3), at(1, 1)}, before, nil, true},
		{"the other time on", []impl.Time{at(0, 2), at(2, 1)}, all, came, true},
		{"both times on", []impl.Time{at(0, 3), at(1, 2), at(2, 1)}, all, came, true},
		{"to more times", []impl.Time{at(0, 7), at(1, 5), at(2, 2), at(5, 1)}, all, came, true},
		{"past all that is made", []impl.Time{at(2, 2)}, all, came, true},
		{"to the last time", []impl.Time{at(7, 7)}, all, came, true},
		{"to none", nil, all, came, true},
		{"to an empty list", []impl.Time{}, all, came, true},
		{"back", []impl.Time{at(0, 1), at(1, 0)}, nil, nil, false},
		{"back to the first time there is", []impl.Time{at(0, 0)}, nil, nil, false},
		{"one time back", []impl.Time{at(0, 1)}, nil, nil, false},
		{"the last time back", []impl.Time{at(0, 2), at(1, 0)}, nil, nil, false},
		{"a time more that is ahead", []impl.Time{at(0, 2), at(1, 1), at(2, 0)}, nil, nil, false},
		{"a time that is ahead of both, and late in A", []impl.Time{at(7, 0)}, nil, nil, false},
		{"one time on, and one that is ahead", []impl.Time{at(0, 7), at(2, 0)}, nil, nil, false},
		{"no front", []impl.Time{at(1, 1), at(0, 2)}, nil, nil, false},
		{"no front, the same time twice", []impl.Time{at(2, 2), at(2, 2)}, nil, nil, false},
		{"no front, behind each other", []impl.Time{at(1, 2), at(2, 2)}, nil, nil, false},
		{"no time", []impl.Time{at(0, side)}, nil, nil, false},
	} {
		got, told, ok := impl.SessOn(s, c.f)
		want := impl.Sess{}
		if c.ok {
			want = balance()
			want.Front, want.Told = c.f, c.told
		}
		checkSess(t, c.name, got, ok, want, c.ok)
		if !slices.Equal(told, c.came) {
			t.Errorf("%s: told is %v, not %v", c.name, told, c.came)
		}
		model, modelTold, modelOk := wantSessOn(s, c.f)
		if modelOk != c.ok || !sameSess(model, want) || !slices.Equal(modelTold, c.came) {
			t.Errorf("%s: the model says %t, %s, told %v", c.name, modelOk, tellSess(model), modelTold)
		}
	}
}

func TestSessAtOfAFew(t *testing.T) {
	for _, c := range []struct {
		front []impl.Time
		s     impl.Time
		n     int
		ok    bool
	}{
		{[]impl.Time{at(0, 2), at(1, 1)}, at(0, 0), 2, true},
		{[]impl.Time{at(0, 2), at(1, 1)}, at(0, 1), 2, true},
		{[]impl.Time{at(0, 2), at(1, 1)}, at(1, 0), 1, true},
		{[]impl.Time{at(0, 2), at(1, 1)}, at(7, 0), 1, true},
		{[]impl.Time{at(0, 2), at(1, 1)}, at(0, 2), 0, false},
		{[]impl.Time{at(0, 2), at(1, 1)}, at(1, 1), 0, false},
		{[]impl.Time{at(0, 2), at(1, 1)}, at(7, 7), 0, false},
		{[]impl.Time{at(0, 2)}, at(1, 1), 2, true},
		{[]impl.Time{at(0, 2)}, at(1, 2), 0, false},
		{[]impl.Time{at(7, 7)}, at(7, 6), 2, true},
		{[]impl.Time{at(7, 7)}, at(7, 7), 0, false},
		{nil, at(7, 7), 2, true},
		{nil, at(1, 0), 1, true},
		{nil, at(0, side), 0, false},
		{nil, at(-1, 0), 0, false},
	} {
		s, _, ok := impl.SessOn(balance(), c.front)
		if !ok {
			t.Fatalf("it does not move on to %v", c.front)
		}
		var want []impl.Item
		if c.ok {
			want = []impl.Item{item(0, 1, c.n)}
		}
		if got, ok := impl.SessAt(s, c.s); ok != c.ok || !slices.Equal(got, want) {
			t.Errorf("%s tells %t, %v at %s", tellSess(s), ok, got, tell(c.s))
		}
	}
}

// Of two times neither of which is earlier the least is another one at their join, where nothing comes in: that is told when the front is past the join.
func TestSessOnTellsWhatChangesAtAJoinOfTimes(t *testing.T) {
	s, _ := impl.SessNew(planSum(impl.SumLeast, planIn(0)))
	s, ok := impl.SessIn(s, 0, []impl.Row{row(0, 1, 0, 2, 1), row(0, 2, 2, 0, 1)})
	if !ok {
		t.Fatal("it does not come in")
	}
	for _, c := range []struct {
		f    []impl.Time
		came []impl.Row
	}{
		{[]impl.Time{at(0, 1), at(1, 0)}, nil},
		{[]impl.Time{at(0, 1), at(2, 0)}, nil},
		{[]impl.Time{at(0, 3), at(2, 0)}, []impl.Row{row(0, 1, 0, 2, 1)}},
		{[]impl.Time{at(0, 3), at(2, 1)}, []impl.Row{row(0, 2, 2, 0, 1)}},
		{[]impl.Time{at(0, 3), at(2, 2)}, nil},
		{[]impl.Time{at(0, 3), at(3, 2)}, []impl.Row{row(0, 2, 2, 2, -1)}},
		{[]impl.Time{at(7, 7)}, nil},
		{nil, nil},
	} {
		next, came, ok := impl.SessOn(s, c.f)
		if !ok || !slices.Equal(came, c.came) {
			t.Fatalf("%s, on to %v: %t, %v, not %v", tellSess(s), c.f, ok, came, c.came)
		}
		s = next
	}
	if want := []impl.Row{row(0, 1, 0, 2, 1), row(0, 2, 2, 0, 1), row(0, 2, 2, 2, -1)}; !slices.Equal(s.Told, want) {
		t.Errorf("told is %v", s.Told)
	}
}

// With the empty front nothing may come any more; nothing at all still does.
func TestSessWithTheEmptyFront(t *testing.T) {
	s, _, ok := impl.SessOn(balance(), nil)
	if !ok || !impl.SessOk(s) {
		t.Fatal("it does not move on")
	}
	for which := range insMost {
		got, ok := impl.SessIn(s, which, nil)
		checkSess(t, "nothing comes in", got, ok, s, true)
		for _, u := range allTimes() {
			got, ok = impl.SessIn(s, which, []impl.Row{row(1, 1, u.A, u.B, 1)})
			checkSess(t, "something at "+tell(u), got, ok, impl.Sess{}, false)
		}
	}
	for _, f := range allFronts() {
		got, came, ok := impl.SessOn(s, f)
		if ok != (len(f) == 0) || len(came) > 0 || ok && !sameSess(got, s) || !ok && !noSess(got) {
			t.Fatalf("on to %v: %t, %s, told %v", f, ok, tellSess(got), came)
		}
	}
}

// What comes in may be ok on its own and not together, in a row, in how many rows there are, and in what is made of it at last or on the way.
func TestSessInOfWhatIsTooMuch(t *testing.T) {
	in0, in1 := planIn(0), planIn(1)
	one := func(key int, val int, diff int) []impl.Row { return []impl.Row{row(key, val, 1, 2, diff)} }
	more := manyRows(rowsMost+1, 1)
	for _, c := range []struct {
		name     string
		p        impl.Plan
		in0, in1 []impl.Row
		which    int
		rows     []impl.Row
		ok       bool
	}{
		{"as much as can be", in0, one(1, 8, 99998), nil, 0, one(1, 8, 1), true},
		{"one more", in0, one(1, 8, 99999), nil, 0, one(1, 8, 1), false},
		{"as little as can be", in1, nil, one(1, 8, -99998), 1, one(1, 8, -1), true},
		{"one less", in1, nil, one(1, 8, -99999), 1, one(1, 8, -1), false},
		{"one more of what is not asked for", in1, one(1, 8, 99999), nil, 0, one(1, 8, 1), false},
		{"twice as much at another place", in0, one(1, 8, 99999), nil, 1, one(1, 8, 99999), true},
		{"as many rows as can be", in0, more[:200], nil, 0, more[200:rowsMost], true},
		{"as many rows as can be at once", in0, nil, nil, 0, more[:rowsMost], true},
		{"a row too many", in0, more[:rowsMost], nil, 0, more[rowsMost:], false},
		{"a row too many of what is not asked for", in0, nil, more[:rowsMost], 1, more[rowsMost:], false},
		{"many rows that come together", in0, more[:rowsMost], nil, 0, more[:rowsMost], true},
		{"all goes", in0, more[:rowsMost], nil, 0, manyRows(rowsMost, -1), true},
		{"both", planBoth(in0, in1), one(1, 8, 50000), nil, 1, one(1, 8, 49999), true},
		{"both, one more", planBoth(in0, in1), one(1, 8, 50000), nil, 1, one(1, 8, 50000), false},
		{"one twice", planBoth(in0, in0), nil, nil, 0, one(1, 8, 50000), false},
		{"too many of both", planBoth(in0, in1), more[:200], nil, 1, more[200:], false},
		{"as many of both as can be", planBoth(in0, in1), more[:200], nil, 1, more[200:rowsMost], true},
		{"pairs", planJoin(in0, in1), one(1, 1, 3), nil, 1, one(1, 8, 33333), true},
		{"pairs, more", planJoin(in0, in1), one(1, 1, 3), nil, 1, one(1, 8, 33334), false},
		{"pairs that are not low", planEach(impl.KeepLow, planJoin(in0, in1)), one(1, 1, 3), nil, 1, one(1, 8, 33334), false},
		{"a sum that is too much on the way", planSum(impl.SumCount, planBoth(in0, in1)), one(1, 8, 99999), nil, 1, one(1, 8, 1), false},
		{"a sum that is not", planSum(impl.SumCount, in0), []impl.Row{row(1, 8, 1, 1, 99999)}, nil, 0, one(1, 8, 99999), true},
		{"once, many more", planSum(impl.SumOnce, in0), nil, nil, 0, sorted(forkRows(200)), false},
		{"once, as many", planSum(impl.SumOnce, in0), nil, nil, 0, sorted(forkRows(133)), true},
		{"taken away behind what is too much", planBoth(planBoth(in0, in1), planLess(in1)), one(1, 8, 99999), nil, 1, one(1, 8, 1), false},
		{"made one by a map", planEach(impl.MapOne, in0), one(0, 8, 99999), nil, 0, one(1, 8, 1), false},
	} {
		s, ok := atWork(c.p, []impl.Time{at(0, 0)}, c.in0, c.in1)
		if !ok || !impl.SessOk(s) {
			t.Errorf("%s: %s is not ok", c.name, tellSess(s))
		}
		want, wantOk := wantSessIn(s, c.which, c.rows)
		got, ok := impl.SessIn(s, c.which, c.rows)
		checkSess(t, c.name, got, ok, want, c.ok)
		if wantOk != c.ok {
			t.Errorf("%s: the model says %t", c.name, wantOk)
		}
		if next, ok := impl.SessIn(s, c.which, nil); !ok || !sameSess(next, s) {
			t.Errorf("%s: behind it nothing comes in: %t, %s", c.name, ok, tellSess(next))
		}
	}
}

func TestPlansAtWorkThatAreNotOk(t *testing.T) {
	for why, s := range badSesses() {
		if impl.SessOk(s) {
			t.Errorf("%s: it is ok", why)
		}
		for which := range insMost {
			for _, rows := range [][]impl.Row{nil, {row(1, 1, 7, 7, 1)}} {
				if got, ok := impl.SessIn(s, which, rows); ok || !noSess(got) {
					t.Errorf("%s: %v comes in, %s", why, rows, tellSess(got))
				}
			}
		}
		for _, f := range [][]impl.Time{s.Front, nil, {at(7, 7)}} {
			if got, came, ok := impl.SessOn(s, f); ok || !noSess(got) || len(came) > 0 {
				t.Errorf("%s: it moves on to %v, %s, %s", why, f, tellSess(got), some(came))
			}
		}
		for _, u := range []impl.Time{at(0, 0), at(0, 7), at(7, 0), at(7, 7), at(-1, 0)} {
			if got, ok := impl.SessAt(s, u); ok || len(got) > 0 {
				t.Errorf("%s: it tells %t, %v at %s", why, ok, got, tell(u))
			}
		}
	}
}

func TestWhatIsNoBatchDoesNotComeIn(t *testing.T) {
	fresh, _ := impl.SessNew(planIn(0))
	ended, _, _ := impl.SessOn(fresh, nil)
	for _, s := range []impl.Sess{fresh, balance(), ended} {
		for _, rows := range badBatches() {
			for which := range insMost {
				if got, ok := impl.SessIn(s, which, rows); ok || !noSess(got) {
					t.Errorf("%s: %s comes in, %s", tellSess(s), some(rows), tellSess(got))
				}
			}
		}
	}
}

func TestSessOnOfWhatIsNoFront(t *testing.T) {
	fresh, _ := impl.SessNew(planIn(0))
	ended, _, _ := impl.SessOn(fresh, nil)
	for why, f := range badFronts() {
		for _, s := range []impl.Sess{fresh, balance(), ended} {
			if got, came, ok := impl.SessOn(s, f); ok || !noSess(got) || len(came) > 0 {
				t.Errorf("%s: %s moves on to %v: %s", why, tellSess(s), f, tellSess(got))
			}
		}
	}
}

func TestSessAtOfTimesThatAreNotOk(t *testing.T) {
	fresh, _ := impl.SessNew(planIn(0))
	ended, _, _ := impl.SessOn(balance(), nil)
	for _, u := range badTimes() {
		for _, s := range []impl.Sess{fresh, balance(), ended} {
			if got, ok := impl.SessAt(s, u); ok || len(got) > 0 {
				t.Errorf("%s tells %t, %v at %s", tellSess(s), ok, got, tell(u))
			}
		}
	}
}

func TestPlansAtWorkOfMany(t *testing.T) {
	batches, fronts := planBatches(), sessFronts()
	came, kept, on, stayed, toldAll := 0, 0, 0, 0, 0
	for i, s := range sessLists() {
		if !impl.SessOk(s) || !wantSessOk(s) {
			t.Fatalf("%s is not ok", tellSess(s))
		}
		for _, rows := range takes(sessComers(s, batches, i), i, 3) {
			want, wantOk := wantSessIn(s, i%insMost, rows)
			got, ok := impl.SessIn(s, i%insMost, rows)
			if ok != wantOk || !sameSess(got, want) {
				t.Fatalf("%s, with %s: %t, %s", tellSess(s), some(rows), ok, tellSess(got))
			}
			if ok && len(rows) > 0 {
				came++
			} else if !ok {
				kept++
			}
		}
		for j, f := range takes(fronts, i, 4) {
			if j%2 > 0 {
				f = impl.FrontBoth(f, s.Front)
			}
			want, wantTold, wantOk := wantSessOn(s, f)
			got, told, ok := impl.SessOn(s, f)
			if ok != wantOk || !sameSess(got, want) || !slices.Equal(told, wantTold) {
				t.Fatalf("%s, on to %v: %t, %s, %s", tellSess(s), f, ok, tellSess(got), some(told))
			}
			if ok {
				on++
				toldAll += len(told)
			} else {
				stayed++
			}
		}
		for _, u := range append(takes(allTimes(), i, 4), at(0, 0), at(7, 7)) {
			want, wantOk := wantSessAt(s, u)
			if got, ok := impl.SessAt(s, u); ok != wantOk || !slices.Equal(got, want) {
				t.Fatalf("%s tells %t, %s at %s", tellSess(s), ok, some(got), tell(u))
			}
		}
	}
	if came < 800 || kept < 400 || on < 1500 || stayed < 500 || toldAll < 1000 {
		t.Errorf("%d came in, %d did not, %d moved on, %d did not, %d rows were told", came, kept, on, stayed, toldAll)
	}
}

// What comes in is summed up by another one: whatever else runs, and on however many at a time, it is the same, and none is left running.
func TestWhatComesInIsSummedUpTheSameHoweverItRuns(t *testing.T) {
	s, _ := impl.SessNew(planBoth(planIn(0), planLess(planIn(1))))
	s, _ = impl.SessIn(s, 0, manyRows(rowsMost, 3))
	rows := manyRows(rowsMost/2, -3)
	want, wantOk := wantSessIn(s, 0, rows)
	if !wantOk {
		t.Fatal("it does not come in")
	}
	before := runtime.NumGoroutine()
	for _, atOnce := range []int{1, 2, runtime.NumCPU()} {
		most := runtime.GOMAXPROCS(atOnce)
		var work sync.WaitGroup
		got := make([]impl.Sess, 40)
		for i := range got {
			work.Add(1)
			go func() {
				defer work.Done()
				got[i], _ = impl.SessIn(s, 0, rows)
			}()
		}
		work.Wait()
		runtime.GOMAXPROCS(most)
		for _, g := range got {
			if !sameSess(g, want) {
				t.Fatalf("%d at once: %s", atOnce, tellSess(g))
			}
		}
	}
	// One that is joined may still have to end.
	for range 10_000_000 {
		if runtime.NumGoroutine() <= before {
			return
		}
		runtime.Gosched()
	}
	t.Errorf("%d run, and before that %d", runtime.NumGoroutine(), before)
}
