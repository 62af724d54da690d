package tests

import (
	"slices"
	"testing"

	"loop.example/tideline/impl"
)

func TestPromise81WhatIsToldOfSettledTimesIsWhatThePlanMakes(t *testing.T) {
	told, something := 0, 0
	for _, s := range sessLists() {
		for _, u := range allTimes() {
			got, ok := impl.SessAt(s, u)
			if !ok {
				continue
			}
			want, wantOk := impl.PlanSet(s.Plan, itemsAt(s.Ins, u))
			if !wantOk || !slices.Equal(got, want) {
				t.Fatalf("%s tells %s at %s, not %t, %s", tellSess(s), some(got), tell(u), wantOk, some(want))
			}
			told++
			if len(got) > 0 {
				something++
			}
		}
	}
	if told < 20000 || something < 5000 {
		t.Errorf("%d are told, %d of these are something", told, something)
	}
}

// sessWalk is a plan at work to which something comes, and whose front moves on, again and again, with all that was told.
type sessWalk struct {
	sess    impl.Sess
	came    [insMost][]impl.Row
	told    []impl.Row
	settled map[impl.Time][]impl.Item
	fronts  [][]impl.Time
	done    [2]int
}

func newWalk(t *testing.T, p impl.Plan) *sessWalk {
	t.Helper()
	s, ok := impl.SessNew(p)
	if !ok {
		t.Fatalf("SessNew of %s is nothing", tellPlan(p))
	}
	return &sessWalk{sess: s, settled: map[impl.Time][]impl.Item{}, fronts: [][]impl.Time{s.Front}}
}

// step lets something come, or moves the front on, by numbers that seem to be in no order; it tells whether the plan at work is another one.
func (w *sessWalk) step(s *steps, k kind) bool {
	if s.below(3) > 0 {
		which, rows := s.below(insMost), notAhead(w.sess.Front, s.rows(k, 1+s.below(5)))
		next, ok := impl.SessIn(w.sess, which, rows)
		if ok && len(rows) > 0 {
			w.sess, w.came[which] = next, append(w.came[which], rows...)
			w.done[0]++
		}
		return ok
	}
	// The first fronts are early ones, so that something is left that may come.
	most := min(k.times, w.done[1]+2)
	f := impl.FrontOf([]impl.Time{at(s.below(most), s.below(most)), at(s.below(most), s.below(most)), at(s.below(most), s.below(most))})
	return w.moveOn(impl.FrontBoth(f, w.sess.Front))
}

func (w *sessWalk) moveOn(f []impl.Time) bool {
	next, told, ok := impl.SessOn(w.sess, f)
	if ok {
		w.sess, w.told = next, append(w.told, told...)
		w.fronts = append(w.fronts, f)
		w.done[1]++
	}
	return ok
}

// check looks whether what was told of settled times is told as it was, and keeps what is settled since.
func (w *sessWalk) check(t *testing.T) {
	t.Helper()
	for _, u := range allTimes() {
		got, ok := impl.SessAt(w.sess, u)
		was, before := w.settled[u]
		if before && (!ok || !slices.Equal(got, was)) {
			t.Fatalf("%s tells %t, %s at %s; that was settled, and %s", tellSess(w.sess), ok, some(got), tell(u), some(was))
		}
		if ok {
			w.settled[u] = got
		}
	}
}

// walkKinds are of few keys, values and times, so that much comes together, and of many.
func walkKinds() []kind {
	return []kind{{1, 2, 3, 1}, {2, 3, 4, 2}, {4, 12, 8, 3}, {2, 100, 8, 200}}
}

func TestPromise82WhatIsToldOfSettledTimesNeverChanges(t *testing.T) {
	s := steps(82)
	came, on, settled := 0, 0, 0
	for i, p := range somePlans() {
		if i%3 > 0 {
			continue
		}
		w, k := newWalk(t, p), walkKinds()[i/3%4]
		for range 14 {
			if w.step(&s, k) {
				w.check(t)
			}
		}
		came, on, settled = came+w.done[0], on+w.done[1], settled+len(w.settled)
		if w.moveOn(nil) {
			w.check(t)
		}
		if len(w.settled) != count {
			t.Fatalf("%s has settled %d times", tellSess(w.sess), len(w.settled))
		}
	}
	if came < 900 || on < 400 || settled < 2000 {
		t.Errorf("%d came in, %d fronts, %d times are settled", came, on, settled)
	}
}

// toldAt is what a plan at work tells at each time, and at which it does.
func toldAt(s impl.Sess) told {
	var all told
	for _, u := range allTimes() {
		items, ok := impl.SessAt(s, u)
		all.items, all.asked = append(all.items, items), append(all.asked, ok)
	}
	return all
}

// Whatever comes in at whichever times of a front, or behind it, one row at a time.
func TestPromise82OfOneRowAtEachTime(t *testing.T) {
	in0, in1 := planIn(0), planIn(1)
	rows := []impl.Row{row(0, 1, 0, 1, 1), row(0, 1, 2, 0, 1), row(0, 2, 1, 0, 2), row(1, 1, 0, 0, -1)}
	for _, p := range []impl.Plan{in0, planLess(in1), planJoin(in0, in1), planJoin(in0, in0), planSum(impl.SumCount, planBoth(in0, in1)), planSum(impl.SumLeast, in0), planBoth(planSum(impl.SumOnce, in0), planLess(planSum(impl.SumCount, in1)))} {
		for _, f := range [][]impl.Time{{at(0, 0)}, {at(1, 1)}, {at(0, 2), at(1, 1), at(2, 0)}, {at(0, 3), at(2, 1)}, {at(3, 0)}, {at(7, 7)}} {
			s, ok := atWork(p, f, rows, rows[:2])
			if !ok {
				t.Fatalf("%s is not ok", tellSess(s))
			}
			before := toldAt(s)
			for i, u := range allTimes() {
				next, ok := impl.SessIn(s, i%insMost, []impl.Row{row(0, 2, u.A, u.B, -2)})
				if ok != !wantSettled(f, u) {
					t.Fatalf("%s: a row at %s comes in: %t", tellSess(s), tell(u), ok)
				}
				if !ok {
					continue
				}
				after := toldAt(next)
				for j, v := range allTimes() {
					if after.asked[j] != before.asked[j] || !slices.Equal(after.items[j], before.items[j]) {
						t.Fatalf("%s, with a row at %s, tells %t, %v at %s, not %t, %v", tellSess(s), tell(u), after.asked[j], after.items[j], tell(v), before.asked[j], before.items[j])
					}
				}
			}
		}
	}
}

// frontsOn are fronts to which a plan at work moves on: the same again, two that are some way on, and the empty one.
func frontsOn(s impl.Sess, fronts [][]impl.Time, turn int) [][]impl.Time {
	on := [][]impl.Time{s.Front, nil}
	for _, f := range takes(fronts, turn, 2) {
		on = append(on, impl.FrontBoth(f, s.Front))
	}
	return on
}

func TestPromise83WhatIsToldIsJustWhatLackedOfTold(t *testing.T) {
	fronts := sessFronts()
	some, none := 0, 0
	for i, s := range sessLists() {
		for _, f := range frontsOn(s, fronts, i) {
			got, told, ok := impl.SessOn(s, f)
			if !ok {
				t.Fatalf("%s does not move on to %v", tellSess(s), f)
			}
			both, bothOk := wantBatch(s.Told, told)
			if !bothOk || !impl.BatchOk(told) || !slices.Equal(both, got.Told) || len(both) != len(s.Told)+len(told) {
				t.Fatalf("%s, on to %v, is told %v, and then Told is %v", tellSess(s), f, told, got.Told)
			}
			if len(told) > 0 {
				some++
			} else {
				none++
			}
		}
	}
	if some < 1000 || none < 1000 {
		t.Errorf("%d times something is told, %d times nothing", some, none)
	}
}

func TestPromise84WhatIsToldIsOfTimesThatWereNotSettledAndAre(t *testing.T) {
	fronts := sessFronts()
	rows := 0
	for i, s := range sessLists() {
		for _, f := range frontsOn(s, fronts, i) {
			got, told, ok := impl.SessOn(s, f)
			if !ok {
				t.Fatalf("%s does not move on to %v", tellSess(s), f)
			}
			for _, r := range told {
				if wantSettled(s.Front, r.At) || !wantSettled(f, r.At) {
					t.Fatalf("%s, on to %v, is told %v", tellSess(s), f, r)
				}
				rows++
			}
			for _, u := range takes(impl.BatchTimes(told), i, min(len(told), 2)) {
				_, before := impl.SessAt(s, u)
				_, after := impl.SessAt(got, u)
				if before || !after {
					t.Fatalf("%s, on to %v, is told of %s, which was settled: %t, and is: %t", tellSess(s), f, tell(u), before, after)
				}
			}
			for _, r := range got.Told {
				if !wantSettled(f, r.At) {
					t.Fatalf("%s, on to %v, has told %v", tellSess(s), f, r)
				}
			}
		}
	}
	if rows < 5000 {
		t.Errorf("only %d rows are told", rows)
	}
}

func TestPromise85WhatComesInIsSummedUpAndChangesNothingElse(t *testing.T) {
	batches := planBatches()
	came := 0
	for i, s := range sessLists() {
		for j, rows := range sessComers(s, batches, i) {
			which := (i + j) % insMost
			got, ok := impl.SessIn(s, which, rows)
			if !ok {
				continue
			}
			both, _ := wantBatch(s.Ins[which], rows)
			if len(got.Ins) != insMost || !slices.Equal(got.Ins[which], both) || !slices.Equal(got.Ins[which], impl.BatchBoth(s.Ins[which], rows)) {
				t.Fatalf("%s, with %s, has %s", tellSess(s), some(rows), tellSess(got))
			}
			got.Ins[which] = s.Ins[which]
			if !sameSess(got, s) {
				t.Fatalf("%s, with %s, is something else: %s", tellSess(s), some(rows), tellSess(got))
			}
			if len(rows) > 0 {
				came++
			}
		}
	}
	if came < 2500 {
		t.Errorf("only %d came in", came)
	}
}

func TestPromise86RowsAheadOfTheFrontDoNotComeIn(t *testing.T) {
	batches := planBatches()
	all, part := 0, 0
	for i, s := range sessLists() {
		for j, rows := range takes(batches, i, 5) {
			ahead := wantAhead(s.Front, rows)
			if len(ahead) == 0 {
				continue
			}
			for _, list := range [][]impl.Row{rows, ahead, ahead[len(ahead)-1:]} {
				if got, ok := impl.SessIn(s, (i+j)%insMost, list); ok || !noSess(got) {
					t.Fatalf("%s: %s comes in, %s", tellSess(s), some(list), tellSess(got))
				}
			}
			if len(ahead) < len(rows) {
				part++
			} else {
				all++
			}
		}
	}
	if all < 500 || part < 500 {
		t.Errorf("all rows of %d are ahead, some of %d", all, part)
	}
}

// One row at each time, and all fronts: it comes in just where it is not ahead.
func TestPromise86OfEachFrontAndTime(t *testing.T) {
	for _, f := range allFronts() {
		s := sess(planIn(0), f, nil, nil, nil)
		for _, u := range allTimes() {
			got, ok := impl.SessIn(s, 0, []impl.Row{row(1, 5, u.A, u.B, 1)})
			if ok == wantSettled(f, u) || ok && !sameSess(got, sess(planIn(0), f, nil, []impl.Row{row(1, 5, u.A, u.B, 1)}, nil)) || !ok && !noSess(got) {
				t.Fatalf("at %v a row at %s comes in: %t, %s", f, tell(u), ok, tellSess(got))
			}
		}
	}
}

func TestPromise87APlanAtWorkStaysOk(t *testing.T) {
	batches, fronts := append(planBatches(), badBatches()[:30]...), sessFronts()
	check := func(name string, s impl.Sess, got impl.Sess, ok bool) {
		t.Helper()
		if ok != impl.SessOk(got) || ok != wantSessOk(got) || !ok && !noSess(got) {
			t.Fatalf("%s of %s is %t, %s", name, tellSess(s), ok, tellSess(got))
		}
	}
	for i, s := range sessLists() {
		check("itself", s, s, true)
		for _, rows := range takes(sessComers(s, batches, i), i, 3) {
			got, ok := impl.SessIn(s, i%insMost, rows)
			check("SessIn of "+some(rows), s, got, ok)
		}
		for _, f := range append(frontsOn(s, fronts, i), takes(fronts, i, 2)...) {
			got, _, ok := impl.SessOn(s, f)
			check("SessOn", s, got, ok)
		}
	}
}

// A plan at work to which all came as it did, front by front, is what it would be if all had come at first and the last front with it.
func TestPromises81To90OneBehindTheOther(t *testing.T) {
	s := steps(90)
	rows := 0
	for i, p := range somePlans() {
		w, k := newWalk(t, p), walkKinds()[i%4]
		for range 10 {
			w.step(&s, k)
		}
		for range 2 {
			var ins [][]impl.Row
			for _, came := range w.came {
				batch, ok := wantBatch(came)
				if !ok {
					t.Fatalf("%s came together", some(came))
				}
				ins = append(ins, batch)
			}
			want, ok := atWork(p, w.sess.Front, ins...)
			if !ok || !sameSess(w.sess, want) || !impl.SessOk(w.sess) {
				t.Fatalf("%s is not %s", tellSess(w.sess), tellSess(want))
			}
			if all, _ := wantBatch(w.told); len(all) != len(w.told) || !slices.Equal(all, w.sess.Told) {
				t.Fatalf("%s, and told was %s", tellSess(w.sess), some(w.told))
			}
			rows += len(w.told)
			if !w.moveOn(nil) {
				t.Fatalf("%s does not move on to none", tellSess(w.sess))
			}
		}
	}
	if rows < 3000 {
		t.Errorf("only %d rows are told", rows)
	}
}

// parts are a batch in two: by rows, in turns and one behind the other, and by how many of each.
func parts(rows []impl.Row) [][2][]impl.Row {
	all := [][2][]impl.Row{{rows, nil}, {nil, rows}, {rows[:len(rows)/2], rows[len(rows)/2:]}}
	var turns, much [2][]impl.Row
	for i, r := range rows {
		turns[i%2] = append(turns[i%2], r)
		less, rest := r, r
		less.Diff, rest.Diff = -3, r.Diff+3
		much[0] = append(much[0], less)
		if rest.Diff != 0 {
			much[1] = append(much[1], rest)
		}
	}
	return append(all, turns, much)
}

// Where one part alone is too much, it does not come in, though both together may: the promise is of parts that come in.
func TestPromise88InTwoPartsItComesInAsAtOnce(t *testing.T) {
	batches := planBatches()
	came, apart := 0, 0
	for i, s := range sessLists() {
		for j, rows := range takes(sessComers(s, batches, i), i, 3) {
			which := (i + j) % insMost
			want, wantOk := impl.SessIn(s, which, rows)
			for _, part := range parts(rows) {
				first, ok := impl.SessIn(s, which, part[0])
				if !ok {
					apart++
					continue
				}
				got, ok := impl.SessIn(first, which, part[1])
				if wantBatchOk(part[1]) && (ok != wantOk || !sameSess(got, want)) {
					t.Fatalf("%s, with %s and %s, is %t, %s, and with both %t, %s", tellSess(s), some(part[0]), some(part[1]), ok, tellSess(got), wantOk, tellSess(want))
				}
				if ok && len(part[0]) > 0 && len(part[1]) > 0 {
					came++
				}
			}
		}
	}
	if came < 1500 || apart < 100 {
		t.Errorf("%d came in two parts, of %d the first did not come", came, apart)
	}
}

// To one and the other of Ins they come in either order.
func TestPromise88OfBothOfIns(t *testing.T) {
	batches := planBatches()
	came := 0
	for i, s := range sessLists() {
		comers := sessComers(s, batches, i)
		a, b := comers[3+i%2], comers[5]
		first, ok0 := impl.SessIn(s, 0, a)
		second, ok1 := impl.SessIn(s, 1, b)
		if !ok0 || !ok1 {
			continue
		}
		got, ok := impl.SessIn(first, 1, b)
		other, otherOk := impl.SessIn(second, 0, a)
		if ok != otherOk || !sameSess(got, other) {
			t.Fatalf("%s, with %s and %s, is %t, %s, and the other way round %t, %s", tellSess(s), some(a), some(b), ok, tellSess(got), otherOk, tellSess(other))
		}
		if ok && len(a) > 0 && len(b) > 0 {
			came++
		}
	}
	if came < 200 {
		t.Errorf("only %d came", came)
	}
}

func TestPromise89InTwoStepsAFrontMovesOnAsAtOnce(t *testing.T) {
	fronts := sessFronts()
	told, both := 0, 0
	for i, s := range sessLists() {
		for j, f := range frontsOn(s, fronts, i) {
			first, toldFirst, ok := impl.SessOn(s, f)
			if !ok {
				t.Fatalf("%s does not move on to %v", tellSess(s), f)
			}
			for _, g := range frontsOn(first, fronts, i+j+1) {
				second, toldSecond, ok := impl.SessOn(first, g)
				once, toldOnce, onceOk := impl.SessOn(s, g)
				together, _ := wantBatch(toldFirst, toldSecond)
				if !ok || !onceOk || !sameSess(second, once) || !slices.Equal(together, toldOnce) || !slices.Equal(impl.BatchBoth(toldFirst, toldSecond), toldOnce) {
					t.Fatalf("%s, on to %v and %v, is %t, %s, told %s and %s, and at once %t, %s, told %s", tellSess(s), f, g, ok, tellSess(second), some(toldFirst), some(toldSecond), onceOk, tellSess(once), some(toldOnce))
				}
				if len(toldOnce) > 0 {
					told++
				}
				if len(toldFirst) > 0 && len(toldSecond) > 0 {
					both++
				}
			}
		}
	}
	if told < 4000 || both < 400 {
		t.Errorf("%d times something is told, %d times in both steps", told, both)
	}
}

func TestPromise90WithTheEmptyFrontAllIsToldThatThePlanMakes(t *testing.T) {
	something := 0
	for _, s := range sessLists() {
		got, told, ok := impl.SessOn(s, nil)
		made, madeOk := impl.PlanFlow(s.Plan, s.Ins)
		if !ok || !madeOk || len(got.Front) > 0 || !slices.Equal(got.Told, made) || !slices.Equal(impl.BatchBoth(s.Told, told), made) {
			t.Fatalf("%s, on to none, is %t, %s, told %s", tellSess(s), ok, tellSess(got), some(told))
		}
		if len(s.Told) == 0 && !slices.Equal(told, made) {
			t.Fatalf("%s, on to none, is told %s", tellSess(s), some(told))
		}
		for _, u := range []impl.Time{at(0, 0), at(0, 7), at(3, 4), at(7, 7)} {
			want, _ := impl.PlanSet(s.Plan, itemsAt(s.Ins, u))
			if there, ok := impl.SessAt(got, u); !ok || !slices.Equal(there, want) {
				t.Fatalf("%s, on to none, tells %t, %s at %s", tellSess(s), ok, some(there), tell(u))
			}
		}
		if len(made) > 0 {
			something++
		}
	}
	if something < 500 {
		t.Errorf("only %d make something", something)
	}
}

func TestPromise91ANewOneHasToldNothingAndNothingIsSettled(t *testing.T) {
	pairs := batchPairs()
	for i, p := range slices.Concat(plansTo(3), deepPlans(60)) {
		s, ok := impl.SessNew(p)
		if !ok || len(s.Told) > 0 || !impl.SessOk(s) {
			t.Fatalf("SessNew of %s is %t, %s", tellPlan(p), ok, tellSess(s))
		}
		for _, u := range takes(append(allTimes(), at(0, 0)), i, 5) {
			if got, ok := impl.SessAt(s, u); ok || len(got) > 0 {
				t.Fatalf("a new %s tells %v at %s", tellPlan(p), got, tell(u))
			}
		}
		// As nothing is settled, all that is ok together may come.
		ins := takes(pairs, i, 1)[0]
		if _, ok := wantPlanFlow(p, ins); !ok {
			continue
		}
		first, ok := impl.SessIn(s, 0, ins[0])
		if _, alone := wantPlanFlow(p, [][]impl.Row{ins[0], nil}); ok != alone {
			t.Fatalf("%s comes to a new %s: %t", some(ins[0]), tellPlan(p), ok)
		}
		if !ok {
			continue
		}
		if got, ok := impl.SessIn(first, 1, ins[1]); !ok || !sameSess(got, sess(p, []impl.Time{at(0, 0)}, nil, ins...)) {
			t.Fatalf("%s and %s come to a new %s: %t, %s", some(ins[0]), some(ins[1]), tellPlan(p), ok, tellSess(got))
		}
	}
	for _, p := range somePlans()[:60] {
		s, _ := impl.SessNew(p)
		for _, u := range allTimes() {
			if got, ok := impl.SessAt(s, u); ok || len(got) > 0 {
				t.Fatalf("a new %s tells %v at %s", tellPlan(p), got, tell(u))
			}
		}
	}
}

func TestPromise92JustWhatIsSettledIsTold(t *testing.T) {
	rows := []impl.Row{row(0, 0, 0, 0, 1), row(1, 5, 3, 3, -2)}
	for _, f := range allFronts() {
		s := sess(planIn(0), f, wantAhead(f, rows), rows, nil)
		for _, u := range allTimes() {
			got, ok := impl.SessAt(s, u)
			if ok != wantSettled(f, u) || ok == impl.FrontCovers(f, u) {
				t.Fatalf("%s tells at %s: %t", tellSess(s), tell(u), ok)
			}
			if ok != (len(got) > 0) {
				t.Fatalf("%s tells %t, %v at %s", tellSess(s), ok, got, tell(u))
			}
		}
	}
	for _, s := range sessLists() {
		for _, u := range badTimes() {
			if got, ok := impl.SessAt(s, u); ok || len(got) > 0 {
				t.Fatalf("%s tells %t, %v at %s", tellSess(s), ok, got, tell(u))
			}
		}
	}
}

func TestPromise93AFrontDoesNotMoveBack(t *testing.T) {
	rows := []impl.Row{row(0, 0, 0, 0, 1), row(1, 5, 3, 3, -2), row(1, 5, 3, 4, 1)}
	fronts := slices.Concat(someFronts(), sessFronts())
	on, back := 0, 0
	for _, f := range someFronts() {
		s := sess(planIn(0), f, wantAhead(f, rows), rows, nil)
		for _, g := range fronts {
			got, told, ok := impl.SessOn(s, g)
			if ok != wantOn(f, g) || !ok && (!noSess(got) || len(told) > 0) {
				t.Fatalf("%s moves to %v: %t, %s", tellSess(s), g, ok, tellSess(got))
			}
			if !ok {
				back++
				continue
			}
			on++
			if !slices.Equal(got.Front, g) {
				t.Fatalf("%s moves to %v, and not to %v", tellSess(s), got.Front, g)
			}
			if again, _, ok := impl.SessOn(got, f); ok != slices.Equal(f, g) || ok && !sameSess(again, s) {
				t.Fatalf("%s moves to %v and back: %t", tellSess(s), g, ok)
			}
		}
	}
	if on < 2000 || back < 5000 {
		t.Errorf("%d move on, %d do not", on, back)
	}
}

// Of all fronts at which it was, it moves to none again, but to the one at which it is.
func TestPromise93OneBehindTheOther(t *testing.T) {
	s := steps(93)
	refused := 0
	for i, p := range somePlans() {
		if i%3 > 0 {
			continue
		}
		w := newWalk(t, p)
		for range 12 {
			w.step(&s, walkKinds()[i/3%4])
		}
		for _, f := range w.fronts {
			got, told, ok := impl.SessOn(w.sess, f)
			if ok != slices.Equal(f, w.sess.Front) || ok && (!sameSess(got, w.sess) || len(told) > 0) {
				t.Fatalf("%s moves to %v, where it was: %t, %s", tellSess(w.sess), f, ok, tellSess(got))
			}
			if !ok {
				refused++
			}
		}
	}
	if refused < 200 {
		t.Errorf("only %d moves back", refused)
	}
}
