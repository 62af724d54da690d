package tests

import (
	"slices"
	"testing"

	"loop.example/tideline/impl"
)

// Where something that is made is not ok a plan makes nothing, with a false: the promises are of what comes with a true, and the tests count that.
func TestPromise60PlanFlowSumsUpToPlanSet(t *testing.T) {
	pairs, many := batchPairs(), manyPairs()
	told := 0
	for i, p := range somePlans() {
		for _, ins := range append(takes(pairs, i, 6), takes(many, i, 1)...) {
			made, ok := impl.PlanFlow(p, ins)
			if !ok {
				continue
			}
			if len(made) > 0 {
				told++
			}
			for _, s := range allTimes() {
				want, ok := impl.PlanSet(p, itemsAt(ins, s))
				if got := impl.BatchAt(made, s); !ok || !slices.Equal(got, want) {
					t.Fatalf("%s of %s and %s says %s at %s, not %t, %s", tellPlan(p), some(ins[0]), some(ins[1]), some(got), tell(s), ok, some(want))
				}
			}
		}
	}
	if told < 1000 {
		t.Errorf("only %d make something", told)
	}
}

// All that can be of one row in each of a few spots, two of which are at times neither of which is earlier, by all plans that are three deep.
func TestPromise60OfFewRowsByAllPlans(t *testing.T) {
	spots := []impl.Row{row(0, 1, 0, 1, 1), row(0, 1, 1, 0, 1), row(0, 2, 1, 0, 1), row(1, 1, 0, 0, -1)}
	times := []impl.Time{at(0, 0), at(0, 1), at(1, 0), at(1, 1)}
	for i, p := range plansTo(3) {
		for chosen := i % 3; chosen < 1<<len(spots); chosen += 3 {
			// Which of the rows come in to the second is told by the bits of a number; in half of all cases one more comes of each, or 2, if that is none.
			var ins [insMost][]impl.Row
			for j, r := range spots {
				if r.Diff += chosen % 2; r.Diff == 0 {
					r.Diff = 2
				}
				to := chosen >> j & 1
				ins[to] = append(ins[to], r)
			}
			made, ok := impl.PlanFlow(p, ins[:])
			if !ok {
				t.Fatalf("%s of %v is not ok", tellPlan(p), ins)
			}
			for _, s := range times {
				want, ok := wantPlanSet(p, [][]impl.Item{wantItems(ins[0], s), wantItems(ins[1], s)})
				if got := impl.BatchAt(made, s); !ok || !slices.Equal(got, want) {
					t.Fatalf("%s of %v says %s at %s, not %s", tellPlan(p), ins, some(got), tell(s), some(want))
				}
			}
		}
	}
}

func TestPromise61APlansKidsArePlans(t *testing.T) {
	asked := 0
	for _, p := range slices.Concat(plansTo(3), deepPlans(300), badPlans()) {
		if !impl.PlanOk(p) {
			continue
		}
		for _, kid := range p.Kids {
			asked++
			if !impl.PlanOk(kid) || impl.PlanText(kid) == "" {
				t.Fatalf("%s is a plan, its Kid %s is none", tellPlan(p), tellPlan(kid))
			}
		}
	}
	if asked < 4000 {
		t.Errorf("only %d Kids", asked)
	}
}

func TestPromise62APlanMakesABatchOrNothing(t *testing.T) {
	pairs := slices.Concat(batchPairs(), manyPairs())
	for _, bad := range badBatches()[:40] {
		pairs = append(pairs, [][]impl.Row{bad, nil}, [][]impl.Row{nil, bad})
	}
	told, none := 0, 0
	for i, p := range slices.Concat(somePlans(), badPlans()) {
		for _, ins := range takes(pairs, i, 9) {
			got, ok := impl.PlanFlow(p, ins)
			if !impl.BatchOk(got) || !wantBatchOk(got) || !ok && len(got) != 0 {
				t.Fatalf("%s of %s and %s makes %t, %s", tellPlan(p), some(ins[0]), some(ins[1]), ok, some(got))
			}
			if !ok {
				none++
			} else if len(got) > 0 {
				told++
			}
		}
	}
	if told < 1000 || none < 1000 {
		t.Errorf("%d make something, %d nothing", told, none)
	}
}

// movedIns are all that come in, moved by a front, and whether none of that is too much.
func movedIns(ins [][]impl.Row, f []impl.Time) ([][]impl.Row, bool) {
	var moved [][]impl.Row
	for _, list := range ins {
		if _, ok := wantBatch(wantMoved(list, f)); !ok {
			return nil, false
		}
		moved = append(moved, impl.BatchMove(list, f))
	}
	return moved, true
}

func TestPromise63OfMovedBatchesItMakesWhatSaysTheSame(t *testing.T) {
	ups, fronts, pairs := upsets(), fewFronts(), batchPairs()
	told, changed := 0, 0
	for i, p := range somePlans() {
		for j, ins := range takes(pairs, i, 6) {
			made, ok := impl.PlanFlow(p, ins)
			if !ok {
				continue
			}
			for _, f := range append(takes(fronts, i+j, 15), nil, []impl.Time{at(1, 1)}) {
				moved, ok := movedIns(ins, f)
				if !ok {
					continue
				}
				got, ok := impl.PlanFlow(p, moved)
				if !ok {
					continue
				}
				if s, same := sameBehind(ups, f, got, made); !same {
					t.Fatalf("%s of %s and %s, moved by %v, is %s: something else at %s", tellPlan(p), some(ins[0]), some(ins[1]), f, some(got), tell(s))
				}
				if len(f) == 0 && !slices.Equal(got, made) {
					t.Fatalf("%s of %s and %s, moved to no time, is %s", tellPlan(p), some(ins[0]), some(ins[1]), some(got))
				}
				told++
				if !slices.Equal(got, made) {
					changed++
				}
			}
		}
	}
	if told < 20000 || changed < 8000 {
		t.Errorf("%d are told, %d of these are other changes", told, changed)
	}
}

// comesBehind are some that come in, with rows behind a time that come to one of them, or to both.
func comesBehind(ins [][]impl.Row, more []impl.Row, s impl.Time, turn int) ([][]impl.Row, bool) {
	behind := slices.Clone(more)
	for i, r := range behind {
		behind[i].At = at(max(r.At.A, s.A), max(r.At.B, s.B))
	}
	after := slices.Clone(ins)
	for i := range after {
		if turn%3 == i {
			continue
		}
		both, ok := wantBatch(after[i], behind)
		if !ok {
			return nil, false
		}
		after[i] = both
	}
	return after, true
}

func TestPromise64WhatComesInBehindATimeChangesNothingAhead(t *testing.T) {
	pairs, batches, times := batchPairs(), planBatches(), allTimes()
	same, other := 0, 0
	for i, p := range somePlans() {
		for j, ins := range takes(pairs, i, 6) {
			before, ok := impl.PlanFlow(p, ins)
			if !ok {
				continue
			}
			for turn, s := range takes(times, i+7*j, 6) {
				now, ok := comesBehind(ins, batches[(i*13+j*7+turn)%len(batches)], s, i+j+turn)
				if !ok {
					continue
				}
				after, ok := impl.PlanFlow(p, now)
				if !ok {
					continue
				}
				for _, u := range times {
					unchanged := slices.Equal(impl.BatchAt(after, u), impl.BatchAt(before, u))
					if s.A <= u.A && s.B <= u.B {
						if !unchanged {
							other++
						}
						continue
					}
					if !unchanged {
						t.Fatalf("%s of %s and %s, with what comes behind %s, says something else at %s", tellPlan(p), some(ins[0]), some(ins[1]), tell(s), tell(u))
					}
					same++
				}
			}
		}
	}
	if same < 50000 || other < 10000 {
		t.Errorf("the same is said %d times, and something else, behind, %d times", same, other)
	}
}

func TestPromise65PlanLessOfAPlanMakesBatchLess(t *testing.T) {
	pairs, many := batchPairs(), manyPairs()
	told, none := 0, 0
	for i, p := range plansTo(3) {
		for _, ins := range withMany(takes(pairs, i, 2), many, i) {
			made, ok := impl.PlanFlow(p, ins)
			less, lessOk := impl.PlanFlow(planLess(p), ins)
			if lessOk != ok || !slices.Equal(less, impl.BatchLess(made)) || !slices.Equal(less, wantLess(made)) {
				t.Fatalf("%s of %s and %s makes %t, %s, and less %t, %s", tellPlan(p), some(ins[0]), some(ins[1]), ok, some(made), lessOk, some(less))
			}
			if !ok {
				none++
			} else if len(made) > 0 {
				told++
			}
		}
	}
	if told < 1000 || none < 100 {
		t.Errorf("%d make something, of %d something is not ok", told, none)
	}
}

func TestPromise66APlanAndWhatTakesAwayWhatItMakesMakeNothing(t *testing.T) {
	told, none := 0, 0
	for _, p := range plansTo(2) {
		for _, ins := range slices.Concat(batchPairs(), manyPairs()) {
			made, ok := impl.PlanFlow(p, ins)
			for _, q := range []impl.Plan{planBoth(p, planLess(p)), planBoth(planLess(p), p)} {
				if got, gotOk := impl.PlanFlow(q, ins); gotOk != ok || len(got) != 0 {
					t.Fatalf("%s of %s and %s makes %t, %s", tellPlan(q), some(ins[0]), some(ins[1]), gotOk, some(got))
				}
			}
			if !ok {
				none++
			} else if len(made) > 0 {
				told++
			}
		}
	}
	if told < 1000 || none < 20 {
		t.Errorf("%d make something, of %d something is not ok", told, none)
	}
}

// overKids is a plan that asks for what comes in where it had its Kids.
func overKids(p impl.Plan) impl.Plan {
	q := impl.Plan{Kind: p.Kind, Num: p.Num}
	for i := range p.Kids {
		q.Kids = append(q.Kids, planIn(i))
	}
	return q
}

// kidsMake are what the Kids of a plan make, one for each that comes in, and whether all of it is ok.
func kidsMake[T any](p impl.Plan, ins [][]T, makes func(impl.Plan, [][]T) ([]T, bool)) ([][]T, bool) {
	kids := make([][]T, insMost)
	for i, kid := range p.Kids {
		made, ok := makes(kid, ins)
		if !ok {
			return nil, false
		}
		kids[i] = made
	}
	return kids, true
}

func TestPromise67APlanMakesOfWhatItsKidsMakeWhatItMakes(t *testing.T) {
	pairs, many := batchPairs(), manyPairs()
	told, none := 0, 0
	for i, p := range slices.Concat(plansTo(3), deepPlans(300)) {
		if p.Kind == impl.PlanIn {
			continue
		}
		for _, ins := range withMany(takes(pairs, i, 2), many, i) {
			made, ok := impl.PlanFlow(p, ins)
			var want []impl.Row
			kids, wantOk := kidsMake(p, ins, impl.PlanFlow)
			if wantOk {
				want, wantOk = impl.PlanFlow(overKids(p), kids)
			}
			if ok != wantOk || !slices.Equal(made, want) {
				t.Fatalf("%s of %s and %s makes %t, %s, and of what its Kids make %t, %s", tellPlan(p), some(ins[0]), some(ins[1]), ok, some(made), wantOk, some(want))
			}
			if !ok {
				none++
			} else if len(made) > 0 {
				told++
			}
		}
	}
	if told < 1000 || none < 100 {
		t.Errorf("%d make something, of %d something is not ok", told, none)
	}
}

func TestPromise67OfItems(t *testing.T) {
	sets := itemLists()
	told := 0
	for i, p := range slices.Concat(plansTo(3), deepPlans(300)) {
		if p.Kind == impl.PlanIn {
			continue
		}
		ins := [][]impl.Item{sets[i%len(sets)], sets[(i*31+5)%len(sets)]}
		made, ok := impl.PlanSet(p, ins)
		var want []impl.Item
		kids, wantOk := kidsMake(p, ins, impl.PlanSet)
		if wantOk {
			want, wantOk = impl.PlanSet(overKids(p), kids)
		}
		if ok != wantOk || !slices.Equal(made, want) {
			t.Fatalf("%s of %s and %s makes %t, %s, and of what its Kids make %t, %s", tellPlan(p), some(ins[0]), some(ins[1]), ok, some(made), wantOk, some(want))
		}
		if len(made) > 0 {
			told++
		}
	}
	if told < 500 {
		t.Errorf("only %d make something", told)
	}
}

// atFirst are rows that say from the first time on what there is of others at last, and whether they are ok.
func atFirst(list []impl.Row) ([]impl.Row, bool) {
	first := slices.Clone(list)
	for i := range first {
		first[i].At = at(0, 0)
	}
	return wantBatch(first)
}

func TestPromise68OfWhatIsThereAtLastItMakesWhatIsThereAtLast(t *testing.T) {
	pairs, many := batchPairs(), manyPairs()
	told := 0
	for i, p := range somePlans() {
		for _, ins := range append(takes(pairs, i, 6), takes(many, i, 1)...) {
			made, ok := impl.PlanFlow(p, ins)
			first0, ok0 := atFirst(ins[0])
			first1, ok1 := atFirst(ins[1])
			if !ok || !ok0 || !ok1 {
				continue
			}
			got, ok := impl.PlanFlow(p, [][]impl.Row{first0, first1})
			if !ok {
				continue
			}
			want, ok := atFirst(made)
			if !ok || !slices.Equal(got, want) || !slices.Equal(impl.BatchAt(got, at(0, 0)), impl.BatchAt(made, at(7, 7))) {
				t.Fatalf("%s of %s and %s, at the first time, makes %s, not %s", tellPlan(p), some(first0), some(first1), some(got), some(want))
			}
			if len(got) > 0 {
				told++
			}
		}
	}
	if told < 800 {
		t.Errorf("only %d make something", told)
	}
}

func TestPromise69APlanThatAsksForTheFirstAloneDoesNotChangeWithTheSecond(t *testing.T) {
	batches, sets := slices.Concat(planBatches(), [][]impl.Row{manyRows(rowsMost, diffMost)}), itemLists()
	told := 0
	for i, p := range allPlans(3, planIn(0)) {
		for j, a := range takes(batches, i, 3) {
			made, ok := impl.PlanFlow(p, [][]impl.Row{a, nil})
			for _, b := range append(takes(batches, i*3+j+1, 3), a, manyRows(rowsMost, diffMost)) {
				if got, gotOk := impl.PlanFlow(p, [][]impl.Row{a, b}); gotOk != ok || !slices.Equal(got, made) {
					t.Fatalf("%s of %s and %s makes %t, %s, and without %t, %s", tellPlan(p), some(a), some(b), gotOk, some(got), ok, some(made))
				}
			}
			if len(made) > 0 {
				told++
			}
		}
		for j, s := range takes(sets, i, 3) {
			made, ok := impl.PlanSet(p, [][]impl.Item{s, nil})
			for _, u := range append(takes(sets, i*3+j+1, 3), s, allItems(countMost)) {
				if got, gotOk := impl.PlanSet(p, [][]impl.Item{s, u}); gotOk != ok || !slices.Equal(got, made) {
					t.Fatalf("%s of %s and %s makes %t, %s, and without %t, %s", tellPlan(p), some(s), some(u), gotOk, some(got), ok, some(made))
				}
			}
		}
	}
	if told < 500 {
		t.Errorf("only %d make something", told)
	}
}

func TestPromise70WhatAPlanMakesOfItemsIsItems(t *testing.T) {
	sets := append(itemLists(), badSets()...)
	told, none := 0, 0
	for i, p := range slices.Concat(plansTo(3), deepPlans(300), badPlans()) {
		for j := range 4 {
			ins := [][]impl.Item{sets[(i*7+j*29)%len(sets)], sets[(i*31+j*53+5)%len(sets)]}
			got, ok := impl.PlanSet(p, ins)
			if !impl.SetOk(got) || !ok && len(got) != 0 {
				t.Fatalf("%s of %s and %s makes %t, %s", tellPlan(p), some(ins[0]), some(ins[1]), ok, some(got))
			}
			if !ok {
				none++
			} else if len(got) > 0 {
				told++
			}
		}
	}
	if told < 1000 || none < 1000 {
		t.Errorf("%d make something, %d nothing", told, none)
	}
}
