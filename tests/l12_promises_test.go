package tests

import (
	"slices"
	"testing"

	"loop.example/tideline/impl"
)

// told is what a spine tells at each time, and at which it may be asked.
type told struct {
	items [][]impl.Item
	asked []bool
}

func toldOf(s impl.Spine) told {
	var all told
	for _, u := range allTimes() {
		items, ok := impl.SpineAt(s, u)
		all.items, all.asked = append(all.items, items), append(all.asked, ok)
	}
	return all
}

// checkTold looks whether two spines may be asked at the same times and tell the same there; it answers at how many there is something.
func checkTold(t *testing.T, name string, s impl.Spine, got impl.Spine) int {
	t.Helper()
	before, after := toldOf(s), toldOf(got)
	something := 0
	for i, u := range allTimes() {
		if before.asked[i] != after.asked[i] || !slices.Equal(before.items[i], after.items[i]) {
			t.Fatalf("%s: %s tells %t, %v at %s; it was %s, which tells %t, %v", name, tellSpine(got), after.asked[i], after.items[i], tell(u), tellSpine(s), before.asked[i], before.items[i])
		}
		if len(after.items[i]) > 0 {
			something++
		}
	}
	return something
}

// What is too much together is nothing, and comes with a false: the promises are of what comes with a true, and the tests count that.
func TestPromise49ASpineThatIsGivenABatchTellsWhatBothSay(t *testing.T) {
	open, full := 0, 0
	for _, s := range spineLists() {
		before := toldOf(s)
		for _, b := range comers(s)[:14] {
			got, ok := impl.SpineIn(s, b)
			if !ok {
				continue
			}
			after := toldOf(got)
			for i, u := range allTimes() {
				if after.asked[i] != before.asked[i] || after.asked[i] != wantAsked(s.Since, u) {
					t.Fatalf("%s, given %s, may be asked at %s: %t", tellSpine(s), some(b), tell(u), after.asked[i])
				}
				if !after.asked[i] {
					continue
				}
				if want := impl.SetBoth(before.items[i], impl.BatchAt(b, u)); !slices.Equal(after.items[i], want) {
					t.Fatalf("%s, given %s, tells %v at %s, not %v", tellSpine(s), some(b), after.items[i], tell(u), want)
				}
			}
			if len(s.Layers) == layersMost {
				full++
			} else {
				open++
			}
		}
	}
	if open < 1000 || full < 200 {
		t.Errorf("%d have room for a layer, %d have none", open, full)
	}
}

func TestPromise50TwoLayersMadeOneTellTheSame(t *testing.T) {
	made, something, moved := 0, 0, 0
	for _, s := range spineLists() {
		for place := range len(s.Layers) {
			got, ok := impl.SpineJoin(s, place)
			if !ok {
				continue
			}
			made++
			something += checkTold(t, "SpineJoin", s, got)
			if all := impl.SpineAll(s); !slices.Equal(impl.SpineAll(got), all) {
				moved++
			}
		}
	}
	if made < 800 || something < 10000 || moved < 200 {
		t.Errorf("%d are made one, at %d times there is something, %d say something else of times that may not be asked", made, something, moved)
	}
}

func TestPromise51ASpineMayBeAskedJustAtTheNewFront(t *testing.T) {
	ups, fronts := upsets(), fewFronts()
	moved, ahead := 0, 0
	for _, s := range spineLists() {
		before := toldOf(s)
		for _, f := range fronts {
			got, ok := impl.SpineSince(s, f)
			if !ok {
				continue
			}
			moved++
			cover := coverOf(ups, f)
			after := toldOf(got)
			for i, u := range allTimes() {
				if after.asked[i] != holds(cover, u) {
					t.Fatalf("%s may be asked at %s: %t", tellSpine(got), tell(u), after.asked[i])
				}
				if after.asked[i] && (!before.asked[i] || !slices.Equal(after.items[i], before.items[i])) {
					t.Fatalf("%s tells %v at %s; before it was %t, %v", tellSpine(got), after.items[i], tell(u), before.asked[i], before.items[i])
				}
				if before.asked[i] && !after.asked[i] {
					ahead++
				}
			}
		}
	}
	if moved < 4000 || ahead < 4000 {
		t.Errorf("%d fronts, %d times that may not be asked any more", moved, ahead)
	}
}

func TestPromise52ASpineTellsWhatSpineAllSays(t *testing.T) {
	said, tooMuch := 0, 0
	for _, s := range spineLists() {
		want, ok := wantBatch(s.Layers...)
		all := impl.SpineAll(s)
		if !impl.BatchOk(all) || !slices.Equal(all, want) {
			t.Fatalf("SpineAll of %s is %s", tellSpine(s), some(all))
		}
		if !ok {
			tooMuch++
			continue
		}
		said++
		for _, u := range allTimes() {
			got, asked := impl.SpineAt(s, u)
			if asked && !slices.Equal(got, impl.BatchAt(all, u)) {
				t.Fatalf("%s tells %v at %s, not what %s says", tellSpine(s), got, tell(u), some(all))
			}
		}
	}
	if said < 300 || tooMuch < 10 {
		t.Errorf("%d say something, %d are too much", said, tooMuch)
	}
}

func TestPromise53ALayerMoreOrAsManyAndTheLastOneIsWhatCameIn(t *testing.T) {
	var came [layersMost + 1]int
	for _, s := range spineLists() {
		for _, b := range comers(s) {
			got, ok := impl.SpineIn(s, b)
			if !ok {
				continue
			}
			came[len(s.Layers)]++
			if len(got.Layers) != min(len(s.Layers)+1, layersMost) || !slices.Equal(got.Layers[len(got.Layers)-1], b) || !slices.Equal(got.Since, s.Since) {
				t.Fatalf("%s, given %s, is %s", tellSpine(s), some(b), tellSpine(got))
			}
			if len(s.Layers) < layersMost && !sameSpine(spine(s.Since, got.Layers[:len(s.Layers)]...), s) {
				t.Fatalf("%s, given %s, has other layers: %s", tellSpine(s), some(b), tellSpine(got))
			}
		}
	}
	for layers, n := range came {
		if n < 50 {
			t.Errorf("to %d layers there came %d", layers, n)
		}
	}
}

// joinAll makes layers one until one is left, by turns at the places that are told; false, if they are too much on the way.
func joinAll(s impl.Spine, place func(layers int) int) (impl.Spine, bool) {
	for len(s.Layers) > 1 {
		next, ok := impl.SpineJoin(s, place(len(s.Layers)))
		if !ok || len(next.Layers) != len(s.Layers)-1 {
			return impl.Spine{}, false
		}
		s = next
	}
	return s, true
}

// A single layer has no next one, and stays as it is: the promise is of more.
func TestPromise54LayersMayBeMadeOneUntilOneIsLeft(t *testing.T) {
	st := steps(54)
	places := map[string]func(layers int) int{
		"the first":    func(int) int { return 0 },
		"the last":     func(layers int) int { return layers - 2 },
		"in the midst": func(layers int) int { return (layers - 1) / 2 },
		"some":         func(layers int) int { return st.below(layers - 1) },
	}
	left := 0
	for _, s := range spineLists() {
		all, ok := wantBatch(s.Layers...)
		if len(s.Layers) < 2 || !ok {
			continue
		}
		for name, place := range places {
			got, ok := joinAll(s, place)
			if !ok {
				if !tooMuchOnTheWay(s) {
					t.Fatalf("%s: %s cannot be made one", name, tellSpine(s))
				}
				continue
			}
			left++
			want, _ := wantBatch(wantMoved(all, s.Since))
			if len(got.Layers) != 1 || !slices.Equal(got.Layers[0], impl.BatchMove(impl.SpineAll(s), s.Since)) || !slices.Equal(got.Layers[0], want) {
				t.Fatalf("%s: %s is left of %s", name, tellSpine(got), tellSpine(s))
			}
			if _, ok := impl.SpineJoin(got, 0); ok {
				t.Fatalf("%s, the last one, is made one with none", tellSpine(got))
			}
		}
	}
	if left < 800 {
		t.Errorf("only %d are not too much", left)
	}
}

// tooMuchOnTheWay says whether some layers side by side, moved, are too much together.
func tooMuchOnTheWay(s impl.Spine) bool {
	for from := range s.Layers {
		for to := from + 2; to <= len(s.Layers); to++ {
			if _, ok := wantBatch(wantMoved(slices.Concat(s.Layers[from:to]...), s.Since)); !ok {
				return true
			}
		}
	}
	return false
}

func TestPromise54OneLayerStays(t *testing.T) {
	for _, s := range spineLists() {
		if len(s.Layers) > 1 {
			continue
		}
		if got, ok := impl.SpineJoin(s, 0); ok || !noSpine(got) {
			t.Errorf("SpineJoin of %s is %s", tellSpine(s), tellSpine(got))
		}
	}
}

func TestPromise55TwoLayersMadeOneHaveNoMoreRows(t *testing.T) {
	fewer, asMany := 0, 0
	for _, s := range spineLists() {
		for place := range len(s.Layers) {
			got, ok := impl.SpineJoin(s, place)
			if !ok {
				continue
			}
			before := len(s.Layers[place]) + len(s.Layers[place+1])
			if after := len(got.Layers[place]); after > before || spineSize(got)-after != spineSize(s)-before {
				t.Fatalf("%d and the next one of %s are %s", place, tellSpine(s), tellSpine(got))
			} else if after < before {
				fewer++
			} else {
				asMany++
			}
		}
	}
	if fewer < 200 || asMany < 100 {
		t.Errorf("%d have fewer rows, %d as many", fewer, asMany)
	}
}

func TestPromise56JustWhatMayBeAskedIsTold(t *testing.T) {
	rows := []impl.Row{row(0, 0, 0, 0, 1), row(1, 5, 3, 3, -2)}
	for _, f := range allFronts() {
		s := spine(f, rows)
		for _, u := range allTimes() {
			got, ok := impl.SpineAt(s, u)
			if asked := len(f) == 0 || impl.FrontCovers(f, u); ok != asked || ok != wantAsked(f, u) {
				t.Fatalf("%s tells at %s: %t", tellSpine(s), tell(u), ok)
			}
			if ok != (len(got) > 0) {
				t.Fatalf("%s tells %t, %v at %s", tellSpine(s), ok, got, tell(u))
			}
		}
	}
	for _, s := range spineLists() {
		for _, u := range badTimes() {
			if got, ok := impl.SpineAt(s, u); ok || len(got) != 0 {
				t.Errorf("%s tells %t, %v at %s", tellSpine(s), ok, got, tell(u))
			}
		}
	}
	for why, s := range badSpines() {
		for _, u := range allTimes() {
			if got, ok := impl.SpineAt(s, u); ok || len(got) != 0 {
				t.Fatalf("%s: it tells %t, %v at %s", why, ok, got, tell(u))
			}
		}
	}
}

func TestPromise57ASpineStaysOk(t *testing.T) {
	check := func(name string, s impl.Spine, got impl.Spine, ok bool) {
		t.Helper()
		if !impl.SpineOk(got) || ok && !wantSpineOk(got) || !ok && !noSpine(got) {
			t.Fatalf("%s of %s is %t, %s", name, tellSpine(s), ok, tellSpine(got))
		}
	}
	fronts := fewFronts()
	for _, s := range spineLists() {
		for place := -1; place <= len(s.Layers); place++ {
			got, ok := impl.SpineJoin(s, place)
			check("SpineJoin", s, got, ok)
		}
		for _, b := range append(comers(s), badBatches()[:20]...) {
			got, ok := impl.SpineIn(s, b)
			check("SpineIn of "+some(b), s, got, ok)
		}
		for _, f := range fronts {
			got, ok := impl.SpineSince(s, f)
			if ok && !sameSpine(got, spine(f, s.Layers...)) {
				t.Fatalf("SpineSince of %s is %s", tellSpine(s), tellSpine(got))
			}
			check("SpineSince", s, got, ok)
		}
	}
}

// walk is a spine to which something is done again and again, with all rows that ever came in.
type walk struct {
	spine impl.Spine
	rows  []impl.Row
	done  [3]int
}

// step does one thing that seems to be in no order; it tells whether the spine is another one.
func (w *walk) step(s *steps, k kind) bool {
	what := []int{0, 0, 0, 0, 1, 1, 2}[s.below(7)]
	next, ok := impl.Spine{}, false
	var b []impl.Row
	switch what {
	case 0:
		b, _ = wantBatch(wantMoved(s.rows(k, s.below(6)), w.spine.Since))
		// A row that is moved by a front of more times may still be ahead of it.
		b = slices.DeleteFunc(b, func(r impl.Row) bool { return !wantAsked(w.spine.Since, r.At) })
		next, ok = impl.SpineIn(w.spine, b)
	case 1:
		next, ok = impl.SpineJoin(w.spine, s.below(layersMost))
	case 2:
		// The first fronts are early ones, so that there is something left to move.
		most := min(k.times, w.done[2]+2)
		f := impl.FrontOf([]impl.Time{at(s.below(most), s.below(most)), at(s.below(most), s.below(most))})
		if len(w.spine.Since) > 0 {
			f = impl.FrontBoth(f, w.spine.Since)
		}
		next, ok = impl.SpineSince(w.spine, f)
	}
	if ok {
		w.spine, w.rows = next, append(w.rows, b...)
		w.done[what]++
	}
	return ok
}

func TestPromises49To57OneBehindTheOther(t *testing.T) {
	s := steps(57)
	for _, k := range []kind{{1, 1, 2, 1}, {2, 2, 3, 2}, {4, 100, 8, 60}, {1, 2, 8, 30000}} {
		var done [3]int
		for range 40 {
			w := walk{}
			for range 40 {
				if !w.step(&s, k) {
					continue
				}
				if !impl.SpineOk(w.spine) || !wantSpineOk(w.spine) {
					t.Fatalf("%s is not ok", tellSpine(w.spine))
				}
				for _, u := range allTimes() {
					got, ok := impl.SpineAt(w.spine, u)
					if ok != wantAsked(w.spine.Since, u) || ok && !slices.Equal(got, wantItems(w.rows, u)) {
						t.Fatalf("%s tells %t, %v at %s; %s came in", tellSpine(w.spine), ok, got, tell(u), some(w.rows))
					}
				}
			}
			for what, n := range w.done {
				done[what] += n
			}
		}
		if done[0] < 300 || done[1] < 50 || done[2] < 50 {
			t.Errorf("of kind %v %d came in, %d were made one, %d are since", k, done[0], done[1], done[2])
		}
	}
}

func TestPromise58AnEmptyBatchChangesNothingThatIsTold(t *testing.T) {
	open, full := 0, 0
	for _, s := range spineLists() {
		for _, none := range [][]impl.Row{nil, {}} {
			got, ok := impl.SpineIn(s, none)
			if !ok {
				continue
			}
			checkTold(t, "SpineIn of nothing", s, got)
			if len(s.Layers) < layersMost {
				open++
				if !slices.Equal(impl.SpineAll(got), impl.SpineAll(s)) {
					t.Fatalf("%s, given nothing, is %s", tellSpine(s), tellSpine(got))
				}
			} else {
				full++
			}
		}
		if _, ok := impl.SpineIn(s, nil); !ok && (len(s.Layers) < layersMost || !tooMuchOnTheWay(s)) {
			t.Fatalf("nothing does not come to %s", tellSpine(s))
		}
	}
	if open < 500 || full < 100 {
		t.Errorf("%d have room for a layer, %d have none", open, full)
	}
}

func TestPromise59TheSameFrontOnceMoreChangesNothing(t *testing.T) {
	fronts := fewFronts()
	same, again := 0, 0
	for _, s := range spineLists() {
		if got, ok := impl.SpineSince(s, s.Since); len(s.Since) > 0 {
			same++
			checkSpine(t, "the same front", s, got, ok, s, true)
		} else if ok || !noSpine(got) {
			t.Fatalf("SpineSince of %s to none is %s", tellSpine(s), tellSpine(got))
		}
		for _, f := range fronts {
			if once, ok := impl.SpineSince(s, f); ok {
				again++
				twice, ok := impl.SpineSince(once, f)
				checkSpine(t, "the same front once more", once, twice, ok, once, true)
			}
		}
	}
	if same < 200 || again < 4000 {
		t.Errorf("%d have a front, %d are given one", same, again)
	}
}
