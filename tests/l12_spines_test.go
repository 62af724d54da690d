package tests

import (
	"math"
	"slices"
	"testing"

	"loop.example/tideline/impl"
)

func TestLimitOfSpines(t *testing.T) {
	if impl.SpineMax != layersMost {
		t.Error(impl.SpineMax)
	}
}

func TestSpineOk(t *testing.T) {
	for _, s := range spineLists() {
		if !impl.SpineOk(s) || !wantSpineOk(s) {
			t.Errorf("not ok: %s", tellSpine(s))
		}
	}
	for why, s := range badSpines() {
		if impl.SpineOk(s) || wantSpineOk(s) {
			t.Errorf("%s is ok: %s", why, tellSpine(s))
		}
	}
	for _, f := range allFronts() {
		if !impl.SpineOk(spine(f, []impl.Row{row(1, 5, 0, 0, 1)})) {
			t.Fatalf("not ok since %v", f)
		}
	}
}

func TestSpineOkOfAsManyRowsAsCanBe(t *testing.T) {
	for size := rowsMost - 1; size <= rowsMost+1; size++ {
		for layers := 1; layers <= layersMost; layers++ {
			if s := spine(nil, spread(manyRows(size, 1), layers)...); impl.SpineOk(s) != (size <= rowsMost) {
				t.Errorf("%d rows in %d layers", size, layers)
			}
		}
	}
}

// checkSpine holds what was told of a spine against what is wanted.
func checkSpine(t *testing.T, name string, s impl.Spine, got impl.Spine, ok bool, want impl.Spine, wantOk bool) {
	t.Helper()
	if ok != wantOk || !sameSpine(got, want) {
		t.Fatalf("%s: %s is %t, %s; wanted is %t, %s", name, tellSpine(s), ok, tellSpine(got), wantOk, tellSpine(want))
	}
}

func TestSpineJoin(t *testing.T) {
	a, b, c := []impl.Row{row(0, 1, 0, 0, 1)}, []impl.Row{row(0, 1, 1, 0, 2), row(2, 0, 0, 4, 1)}, []impl.Row{row(0, 0, 2, 2, -1), row(0, 1, 1, 0, 3)}
	ab, bc := []impl.Row{row(0, 1, 0, 0, 1), row(0, 1, 1, 0, 2), row(2, 0, 0, 4, 1)}, []impl.Row{row(0, 0, 2, 2, -1), row(0, 1, 1, 0, 5), row(2, 0, 0, 4, 1)}
	one, two := []impl.Time{at(1, 1)}, []impl.Time{at(1, 3), at(3, 1)}
	r, less := []impl.Row{row(1, 5, 2, 2, 3)}, []impl.Row{row(1, 5, 2, 2, -3)}
	many := manyRows(rowsMost, 1)
	cases := []struct {
		name  string
		s     impl.Spine
		place int
		want  impl.Spine
	}{
		{"the first of three", spine(nil, a, b, c), 0, spine(nil, ab, c)},
		{"the last of three", spine(nil, a, b, c), 1, spine(nil, a, bc)},
		{"in the midst", spine(nil, c, a, b, c), 1, spine(nil, c, ab, c)},
		{"the last of six", spine(nil, c, c, c, c, a, b), 4, spine(nil, c, c, c, c, ab)},
		{"moved, and others not", spine(one, c, a, b, a), 1, spine(one, c, []impl.Row{row(0, 1, 1, 1, 3), row(2, 0, 1, 4, 1)}, a)},
		{"moved by two times", spine(two, a, b), 0, spine(two, []impl.Row{row(0, 1, 1, 1, 3), row(2, 0, 1, 4, 1)})},
		{"behind Since", spine([]impl.Time{at(0, 0)}, b, c), 0, spine([]impl.Time{at(0, 0)}, bc)},
		{"to the last time", spine([]impl.Time{at(7, 7)}, b, c), 0, spine([]impl.Time{at(7, 7)}, []impl.Row{row(0, 0, 7, 7, -1), row(0, 1, 7, 7, 5), row(2, 0, 7, 7, 1)})},
		{"apart by two times", spine(two, []impl.Row{row(1, 5, 0, 3, 1)}, []impl.Row{row(1, 5, 3, 0, 1)}), 0, spine(two, []impl.Row{row(1, 5, 1, 3, 1), row(1, 5, 3, 1, 1)})},
		{"rows that cancel", spine(nil, a, r, less, b), 1, spine(nil, a, nil, b)},
		{"rows that cancel, and one more", spine(nil, r, []impl.Row{row(1, 5, 2, 2, -3), row(1, 5, 2, 3, 1)}), 0, spine(nil, []impl.Row{row(1, 5, 2, 3, 1)})},
		{"rows that cancel as they are moved", spine(two, []impl.Row{row(1, 5, 0, 0, 2)}, []impl.Row{row(1, 5, 1, 1, -2)}), 0, spine(two, nil)},
		{"rows of one layer that cancel as they are moved", spine(two, []impl.Row{row(1, 5, 0, 0, 2), row(1, 5, 1, 1, -2)}, r), 0, spine(two, r)},
		{"rows that do not cancel unless they are moved", spine(nil, []impl.Row{row(1, 5, 0, 0, 2)}, []impl.Row{row(1, 5, 1, 1, -2)}), 0, spine(nil, []impl.Row{row(1, 5, 0, 0, 2), row(1, 5, 1, 1, -2)})},
		{"out of order as they are moved", spine([]impl.Time{at(2, 2)}, []impl.Row{row(1, 5, 0, 4, 1), row(1, 5, 1, 3, 1)}, nil), 0, spine([]impl.Time{at(2, 2)}, []impl.Row{row(1, 5, 2, 3, 1), row(1, 5, 2, 4, 1)})},
		{"with an empty one", spine(nil, a, nil), 0, spine(nil, a)},
		{"an empty one first", spine(one, nil, a), 0, spine(one, []impl.Row{row(0, 1, 1, 1, 1)})},
		{"two empty ones", spine(one, a, nil, nil), 1, spine(one, a, nil)},
		{"the same twice", spine(nil, b, b), 0, spine(nil, []impl.Row{row(0, 1, 1, 0, 4), row(2, 0, 0, 4, 2)})},
		{"all rows there can be", spine(nil, spread(many, 2)...), 0, spine(nil, many)},
		{"half of them in two", spine(nil, many[:200], manyRows(200, 2)), 0, spine(nil, manyRows(200, 3))},
		{"half of them away", spine(nil, many[:200], manyRows(200, -1)), 0, spine(nil, nil)},
	}
	for _, c := range cases {
		got, ok := impl.SpineJoin(c.s, c.place)
		checkSpine(t, c.name, c.s, got, ok, c.want, true)
	}
}

func TestSpineJoinOfALayerThatIsNone(t *testing.T) {
	for _, s := range spineLists() {
		last := len(s.Layers) - 1
		for _, place := range []int{-1, -2, last, last + 1, last + 2, 100, math.MinInt, math.MaxInt, 1 << 32} {
			if place >= 0 && place < last {
				continue
			}
			if got, ok := impl.SpineJoin(s, place); ok || !noSpine(got) {
				t.Errorf("SpineJoin of %d of %s is %s", place, tellSpine(s), tellSpine(got))
			}
		}
	}
}

// Of what comes together all Diffs count, moved and not; what is too much on the way is none of it.
func TestSpineJoinAtTheLimitOfADiffAndBeyondIt(t *testing.T) {
	one := []impl.Time{at(1, 0)}
	first := func(diff int) impl.Row { return row(0, 0, 0, 0, diff) }
	next := func(diff int) impl.Row { return row(0, 0, 1, 0, diff) }
	rest := row(3, 3, 3, 3, 1)
	cases := []struct {
		s    impl.Spine
		want []impl.Row
		ok   bool
	}{
		{spine(nil, []impl.Row{first(50000)}, []impl.Row{first(49999)}), []impl.Row{first(99999)}, true},
		{spine(nil, []impl.Row{first(50000)}, []impl.Row{first(50000)}), nil, false},
		{spine(nil, []impl.Row{first(-1), rest}, []impl.Row{first(-99998)}), []impl.Row{first(-99999), rest}, true},
		{spine(nil, []impl.Row{first(-1), rest}, []impl.Row{first(-99999)}), nil, false},
		{spine(nil, []impl.Row{first(99999)}, []impl.Row{next(99999)}), []impl.Row{first(99999), next(99999)}, true},
		{spine(one, []impl.Row{first(99998)}, []impl.Row{next(1)}), []impl.Row{next(99999)}, true},
		{spine(one, []impl.Row{first(99999)}, []impl.Row{next(1)}), nil, false},
		{spine(one, []impl.Row{first(99999), next(1)}, nil), nil, false},
		{spine(one, []impl.Row{first(99999), next(1)}, []impl.Row{first(-1)}), []impl.Row{next(99999)}, true},
		{spine(one, []impl.Row{first(99999)}, []impl.Row{first(99999), next(-99999)}), []impl.Row{next(99999)}, true},
		{spine(one, []impl.Row{first(99999), next(-99999)}, []impl.Row{first(99999), next(-99999)}), nil, true},
		{spine(one, []impl.Row{first(-99999), next(-1)}, []impl.Row{first(-99999), next(99999)}), nil, false},
		{spine(nil, []impl.Row{first(99999), next(-99999)}, []impl.Row{first(99999), next(-99999)}), nil, false},
	}
	for _, c := range cases {
		want := impl.Spine{}
		if c.ok {
			want = spine(c.s.Since, c.want)
		}
		got, ok := impl.SpineJoin(c.s, 0)
		checkSpine(t, "SpineJoin", c.s, got, ok, want, c.ok)
	}
	// Only what is made one is summed up.
	far := spine(nil, []impl.Row{first(99999)}, []impl.Row{first(99999)}, []impl.Row{rest}, nil)
	got, ok := impl.SpineJoin(far, 2)
	checkSpine(t, "SpineJoin of others", far, got, ok, spine(nil, far.Layers[0], far.Layers[1], far.Layers[2]), true)
}

func TestSpineIn(t *testing.T) {
	one, two := []impl.Time{at(1, 1)}, []impl.Time{at(1, 3), at(3, 1)}
	a, b := []impl.Row{row(0, 1, 0, 0, 1)}, []impl.Row{row(0, 1, 1, 3, 2), row(2, 0, 4, 4, 1)}
	cases := []struct {
		name string
		s    impl.Spine
		b    []impl.Row
		want impl.Spine
	}{
		{"the first", impl.Spine{}, a, spine(nil, a)},
		{"the first, empty", impl.Spine{}, nil, spine(nil, nil)},
		{"the first, since one time", spine(one), b, spine(one, b)},
		{"the second", spine(nil, b), a, spine(nil, b, a)},
		{"the same once more", spine(nil, a), a, spine(nil, a, a)},
		{"behind what is not moved", spine(two, a), b, spine(two, a, b)},
		{"behind an empty one", spine(nil, nil), b, spine(nil, nil, b)},
		{"the sixth", spine(two, a, a, a, a, a), b, spine(two, a, a, a, a, a, b)},
		{"an empty one, the sixth", spine(two, a, a, a, a, a), nil, spine(two, a, a, a, a, a, nil)},
		{"the seventh", spine(nil, a, b, b, b, b, b), a, spine(nil, []impl.Row{row(0, 1, 0, 0, 1), row(0, 1, 1, 3, 2), row(2, 0, 4, 4, 1)}, b, b, b, b, a)},
		{"the seventh, as others are moved", spine(two, a, b, b, b, b, b), b, spine(two, []impl.Row{row(0, 1, 1, 1, 1), row(0, 1, 1, 3, 2), row(2, 0, 4, 4, 1)}, b, b, b, b, b)},
		{"an empty one, the seventh", spine(nil, b, b, b, b, b, a), nil, spine(nil, b, b, b, b, []impl.Row{row(0, 1, 0, 0, 1), row(0, 1, 1, 3, 2), row(2, 0, 4, 4, 1)}, nil)},
		{"the seventh behind empty ones", spine(nil, nil, nil, nil, nil, nil, nil), a, spine(nil, nil, nil, nil, nil, nil, a)},
	}
	for _, c := range cases {
		got, ok := impl.SpineIn(c.s, c.b)
		checkSpine(t, c.name, c.s, got, ok, c.want, true)
	}
}

// Which two are made one is by how many rows they have, not by how many are left of them.
func TestSpineInMakesOneOfTheTwoWithTheFewestRows(t *testing.T) {
	cases := []struct {
		sizes [layersMost]int
		place int
	}{
		{[...]int{1, 1, 1, 1, 1, 1}, 0},
		{[...]int{0, 0, 0, 0, 0, 0}, 0},
		{[...]int{1, 2, 3, 4, 5, 6}, 0},
		{[...]int{6, 5, 4, 3, 2, 1}, 4},
		{[...]int{3, 2, 1, 1, 2, 3}, 2},
		{[...]int{3, 3, 3, 3, 1, 1}, 4},
		{[...]int{1, 2, 1, 2, 1, 2}, 0},
		{[...]int{5, 2, 2, 5, 2, 2}, 1},
		{[...]int{5, 5, 2, 3, 2, 3}, 2},
		{[...]int{1, 9, 3, 6, 1, 9}, 3},
		{[...]int{0, 9, 9, 4, 4, 9}, 3},
		{[...]int{9, 0, 9, 0, 8, 0}, 3},
		{[...]int{0, 7, 0, 7, 0, 7}, 0},
		{[...]int{8, 0, 7, 0, 7, 0}, 1},
		{[...]int{100, 100, 50, 50, 50, 50}, 2},
		{[...]int{67, 67, 67, 67, 66, 66}, 4},
	}
	for _, c := range cases {
		layers := piecesOf(manyRows(rowsMost, 1), c.sizes[:]...)
		want := slices.Concat(layers[:c.place], [][]impl.Row{slices.Concat(layers[c.place], layers[c.place+1])}, layers[c.place+2:], [][]impl.Row{nil})
		got, ok := impl.SpineIn(spine(nil, layers...), nil)
		checkSpine(t, "SpineIn", spine(nil, layers...), got, ok, spine(nil, want...), true)
	}
	// Those that cancel each other are more rows than those behind them, which do not.
	a, less := manyRows(3, 1), manyRows(3, -1)
	few, other := manyRows(2, 7), []impl.Row{row(3, 0, 0, 0, 1), row(3, 1, 0, 0, 1)}
	s := spine(nil, a, less, a, less, few, other)
	got, ok := impl.SpineIn(s, nil)
	checkSpine(t, "SpineIn", s, got, ok, spine(nil, a, less, a, less, slices.Concat(few, other), nil), true)
}

func TestSpineInOfAsManyRowsAsCanBe(t *testing.T) {
	many := manyRows(rowsMost+1, 1)
	last := many[rowsMost:]
	for layers := 1; layers <= layersMost; layers++ {
		full, nearly := spine(nil, spread(many[:rowsMost], layers)...), spine(nil, spread(many[:rowsMost-1], layers)...)
		if got, ok := impl.SpineIn(full, last); ok || !noSpine(got) {
			t.Errorf("a row more came to %d layers", layers)
		}
		if got, ok := impl.SpineIn(full, nil); !ok || spineSize(got) != rowsMost {
			t.Errorf("none came to %d layers", layers)
		}
		if got, ok := impl.SpineIn(nearly, last); !ok || spineSize(got) != rowsMost {
			t.Errorf("the last one did not come to %d layers", layers)
		}
		if got, ok := impl.SpineIn(nearly, many[rowsMost-1:]); ok || !noSpine(got) {
			t.Errorf("a row more came with another one to %d layers", layers)
		}
	}
	if got, ok := impl.SpineIn(impl.Spine{}, many[:rowsMost]); !ok || spineSize(got) != rowsMost {
		t.Error("all did not come to none")
	}
	if got, ok := impl.SpineIn(impl.Spine{}, many); ok || !noSpine(got) {
		t.Error("a row more came to none")
	}
}

// Rows are counted when two have been made one: there is room for just as many as went.
func TestSpineInWhereRowsComeToFewer(t *testing.T) {
	many := manyRows(rowsMost, 1)
	for _, c := range []struct {
		name   string
		since  []impl.Time
		layers [][]impl.Row
		one    []impl.Row
		room   int
	}{
		{"no row goes", nil, piecesOf(many, 30, 30, 85, 85, 85, 85), many[:60], 0},
		{"rows that cancel", nil, append([][]impl.Row{many[:30], manyRows(30, -1)}, piecesOf(many[60:], 85, 85, 85, 85)...), nil, 60},
		{"the same rows", nil, append([][]impl.Row{many[:30], many[:30]}, piecesOf(many[60:], 85, 85, 85, 85)...), manyRows(30, 2), 30},
		{"rows that are moved", []impl.Time{at(7, 7)}, piecesOf(many, 10, 10, 95, 95, 95, 95), []impl.Row{row(0, 0, 7, 7, 20)}, 19},
	} {
		var b []impl.Row
		for val := range c.room + 1 {
			b = append(b, row(3, val, 7, 7, 1))
		}
		s := spine(c.since, c.layers...)
		got, ok := impl.SpineIn(s, b)
		checkSpine(t, c.name+", one too many", s, got, ok, impl.Spine{}, false)
		got, ok = impl.SpineIn(s, b[:c.room])
		checkSpine(t, c.name, s, got, ok, spine(c.since, slices.Concat([][]impl.Row{c.one}, c.layers[2:], [][]impl.Row{b[:c.room]})...), true)
	}
}

// Just those two are made one that have the fewest rows: if that cannot be nothing comes in, though of others it could.
func TestSpineInWhereTheTwoAreTooMuchTogether(t *testing.T) {
	most, rest := []impl.Row{row(0, 0, 0, 0, diffMost)}, manyRows(2, 1)
	for place := range layersMost - 1 {
		layers := slices.Repeat([][]impl.Row{rest}, layersMost)
		layers[place], layers[place+1] = most, most
		for _, b := range [][]impl.Row{nil, {row(1, 5, 3, 3, 1)}, {row(0, 0, 0, 0, -1)}} {
			got, ok := impl.SpineIn(spine(nil, layers...), b)
			checkSpine(t, "SpineIn", spine(nil, layers...), got, ok, impl.Spine{}, false)
		}
	}
	// As long as there is room for a layer nothing is summed up.
	five := slices.Repeat([][]impl.Row{most}, layersMost-1)
	got, ok := impl.SpineIn(spine(nil, five...), most)
	checkSpine(t, "SpineIn", spine(nil, five...), got, ok, spine(nil, append(five, most)...), true)
	// What is too much on the way is not, when it is moved.
	since := []impl.Time{at(1, 0)}
	back := []impl.Row{row(0, 0, 0, 0, diffMost), row(0, 0, 1, 0, -diffMost)}
	layers := [][]impl.Row{manyRows(9, 1), most, back, manyRows(9, 1), manyRows(9, 1), manyRows(9, 1)}
	got, ok = impl.SpineIn(spine(since, layers...), nil)
	want := [][]impl.Row{layers[0], {row(0, 0, 1, 0, diffMost)}, layers[3], layers[4], layers[5], nil}
	checkSpine(t, "SpineIn", spine(since, layers...), got, ok, spine(since, want...), true)
}

func TestSpineInOfRowsAheadOfSince(t *testing.T) {
	fronts := someFronts()
	for _, f := range fronts {
		s := spine(f, []impl.Row{row(0, 0, 0, 0, 1)})
		for _, u := range allTimes() {
			r := row(1, 5, u.A, u.B, 1)
			_, ok := impl.SpineIn(s, []impl.Row{r})
			if ok != wantAsked(f, u) {
				t.Fatalf("%v comes in since %v: %t", r, f, ok)
			}
		}
	}
	two := []impl.Time{at(1, 3), at(3, 1)}
	good := []impl.Row{row(1, 5, 1, 3, 1), row(1, 5, 3, 1, 1), row(1, 5, 7, 7, 1)}
	for _, ahead := range []impl.Row{row(0, 0, 0, 0, 1), row(1, 5, 2, 2, 1), row(1, 5, 0, 7, 1), row(1, 5, 7, 0, -1), row(3, 9, 2, 2, 1)} {
		b, _ := wantBatch(good, []impl.Row{ahead})
		for _, s := range []impl.Spine{spine(two), spine(two, good), spine(two, []impl.Row{ahead}), spine(two, spread(manyRows(30, 1), layersMost)...)} {
			got, ok := impl.SpineIn(s, b)
			checkSpine(t, "one row ahead", s, got, ok, impl.Spine{}, false)
			if _, ok := impl.SpineIn(s, good); !ok {
				t.Errorf("%v does not come to %s", good, tellSpine(s))
			}
			if _, ok := impl.SpineIn(s, nil); !ok {
				t.Errorf("an empty batch does not come to %s", tellSpine(s))
			}
		}
	}
}

func TestSpineInOfWhatIsNoBatch(t *testing.T) {
	for _, b := range badBatches() {
		for _, s := range []impl.Spine{{}, spine(nil, manyRows(3, 1)), spine([]impl.Time{at(0, 0)}, spread(manyRows(30, 1), layersMost)...)} {
			got, ok := impl.SpineIn(s, b)
			checkSpine(t, "SpineIn of "+some(b), s, got, ok, impl.Spine{}, false)
		}
	}
}

func TestSpineSince(t *testing.T) {
	a := []impl.Row{row(0, 1, 0, 0, 1), row(2, 0, 4, 4, 1)}
	two := []impl.Time{at(1, 3), at(3, 1)}
	cases := []struct {
		name  string
		since []impl.Time
		f     []impl.Time
		ok    bool
	}{
		{"from none to the first time", nil, []impl.Time{at(0, 0)}, true},
		{"from none to the last", nil, []impl.Time{at(7, 7)}, true},
		{"from none to two", nil, two, true},
		{"from none to none", nil, nil, false},
		{"from two to none", two, []impl.Time{}, false},
		{"the same", two, two, true},
		{"the same one", []impl.Time{at(4, 4)}, []impl.Time{at(4, 4)}, true},
		{"one of the two", two, []impl.Time{at(3, 1)}, true},
		{"their join", two, []impl.Time{at(3, 3)}, true},
		{"their meet", two, []impl.Time{at(1, 1)}, false},
		{"between them", two, []impl.Time{at(2, 2)}, false},
		{"behind each", two, []impl.Time{at(1, 7), at(7, 1)}, true},
		{"two behind one", []impl.Time{at(1, 1)}, two, true},
		{"one behind, one ahead", two, []impl.Time{at(1, 4), at(4, 0)}, false},
		{"one ahead, one behind", two, []impl.Time{at(0, 4), at(4, 1)}, false},
		{"one of three ahead", two, []impl.Time{at(1, 5), at(2, 2), at(5, 1)}, false},
		{"three behind", two, []impl.Time{at(1, 5), at(2, 3), at(3, 1)}, true},
		{"back to the first time", []impl.Time{at(0, 1)}, []impl.Time{at(0, 0)}, false},
		{"aside", []impl.Time{at(1, 0)}, []impl.Time{at(0, 7)}, false},
	}
	for _, c := range cases {
		for _, layers := range [][][]impl.Row{nil, {a}, {a, nil, a}, {a, a, a, a, a, a}} {
			want := impl.Spine{}
			if c.ok {
				want = spine(c.f, layers...)
			}
			s := spine(c.since, layers...)
			got, ok := impl.SpineSince(s, c.f)
			checkSpine(t, c.name, s, got, ok, want, c.ok)
		}
	}
}

func TestSpineSinceOfAWrongFront(t *testing.T) {
	for why, f := range badFronts() {
		for _, s := range []impl.Spine{{}, spine(nil, manyRows(3, 1)), spine([]impl.Time{at(0, 0)}, manyRows(3, 1))} {
			got, ok := impl.SpineSince(s, f)
			checkSpine(t, why, s, got, ok, impl.Spine{}, false)
		}
	}
}

func TestSpineSinceOfManyFronts(t *testing.T) {
	fronts := someFronts()
	moved, kept := 0, 0
	for _, since := range fronts {
		for _, f := range fronts {
			s := spine(since, []impl.Row{row(1, 5, 0, 0, 1)})
			want, wantOk := wantSpineSince(s, f)
			got, ok := impl.SpineSince(s, f)
			checkSpine(t, "SpineSince", s, got, ok, want, wantOk)
			if ok {
				moved++
			} else {
				kept++
			}
		}
	}
	if moved < 1000 || kept < 1000 {
		t.Errorf("%d are so, %d not", moved, kept)
	}
}

func TestSpineAt(t *testing.T) {
	s := spine([]impl.Time{at(1, 3), at(3, 1)},
		[]impl.Row{row(0, 1, 0, 0, 1), row(1, 5, 2, 2, 3)},
		nil,
		[]impl.Row{row(0, 1, 4, 0, 2), row(1, 5, 0, 3, -3)},
		[]impl.Row{row(0, 1, 0, 0, 1), row(3, 0, 7, 7, 1)})
	cases := []struct {
		at   impl.Time
		want []impl.Item
		ok   bool
	}{
		{at(0, 0), nil, false},
		{at(2, 2), nil, false},
		{at(0, 7), nil, false},
		{at(7, 0), nil, false},
		{at(1, 3), []impl.Item{item(0, 1, 2), item(1, 5, -3)}, true},
		{at(3, 1), []impl.Item{item(0, 1, 2)}, true},
		{at(3, 2), []impl.Item{item(0, 1, 2), item(1, 5, 3)}, true},
		{at(3, 3), []impl.Item{item(0, 1, 2)}, true},
		{at(4, 1), []impl.Item{item(0, 1, 4)}, true},
		{at(7, 7), []impl.Item{item(0, 1, 4), item(3, 0, 1)}, true},
		{at(8, 8), nil, false},
		{at(3, -1), nil, false},
	}
	for _, c := range cases {
		if got, ok := impl.SpineAt(s, c.at); ok != c.ok || !slices.Equal(got, c.want) {
			t.Errorf("at %s: %t, %v", tell(c.at), ok, got)
		}
	}
	if got, ok := impl.SpineAt(impl.Spine{}, at(0, 0)); !ok || len(got) != 0 {
		t.Errorf("of no layers: %t, %v", ok, got)
	}
	if got, ok := impl.SpineAt(spine([]impl.Time{at(0, 1)}), at(0, 0)); ok || len(got) != 0 {
		t.Errorf("of no layers, where it may not be asked: %t, %v", ok, got)
	}
}

// A count is no Diff, and what is told at a time is of rows of all layers, which need not be a batch together.
func TestSpineAtCountsBeyondTheLimitOfADiff(t *testing.T) {
	most := []impl.Row{row(2, 7, 1, 1, diffMost)}
	s := spine(nil, most, most, most, most, most, most)
	if got, ok := impl.SpineAt(s, at(1, 1)); !ok || !slices.Equal(got, []impl.Item{item(2, 7, 6*diffMost)}) {
		t.Errorf("%t, %v", ok, got)
	}
	if got := impl.SpineAll(s); len(got) != 0 {
		t.Errorf("SpineAll is %v", got)
	}
}

func TestSpineAll(t *testing.T) {
	a, b := []impl.Row{row(0, 1, 0, 0, 1), row(1, 5, 2, 2, 3)}, []impl.Row{row(0, 1, 0, 0, 2), row(0, 1, 0, 1, 2), row(1, 5, 2, 2, -3)}
	many := manyRows(rowsMost, 1)
	cases := []struct {
		s    impl.Spine
		want []impl.Row
	}{
		{impl.Spine{}, nil},
		{spine(nil, nil, nil), nil},
		{spine(nil, a), a},
		{spine(nil, a, b), []impl.Row{row(0, 1, 0, 0, 3), row(0, 1, 0, 1, 2)}},
		{spine([]impl.Time{at(7, 7)}, a, b), []impl.Row{row(0, 1, 0, 0, 3), row(0, 1, 0, 1, 2)}},
		{spine(nil, a, nil, b, a), []impl.Row{row(0, 1, 0, 0, 4), row(0, 1, 0, 1, 2), row(1, 5, 2, 2, 3)}},
		{spine(nil, a, wantLess(a)), nil},
		{spine(nil, spread(many, layersMost)...), many},
		{spine([]impl.Time{at(7, 7)}, spread(many, 5)...), many},
		{spine(nil, []impl.Row{row(0, 0, 0, 0, 99998)}, []impl.Row{row(0, 0, 0, 0, 1)}), []impl.Row{row(0, 0, 0, 0, 99999)}},
		{spine(nil, []impl.Row{row(0, 0, 0, 0, 99999)}, []impl.Row{row(0, 0, 0, 0, 1)}), nil},
		{spine(nil, []impl.Row{row(0, 0, 0, 0, -99999), row(1, 1, 1, 1, 1)}, []impl.Row{row(0, 0, 0, 0, -1)}), nil},
		{spine(nil, []impl.Row{row(0, 0, 0, 0, 99999)}, []impl.Row{row(0, 0, 0, 0, 99999)}, []impl.Row{row(0, 0, 0, 0, -99999)}), []impl.Row{row(0, 0, 0, 0, 99999)}},
		{spine([]impl.Time{at(1, 0)}, []impl.Row{row(0, 0, 0, 0, 99999)}, []impl.Row{row(0, 0, 1, 0, 1)}), []impl.Row{row(0, 0, 0, 0, 99999), row(0, 0, 1, 0, 1)}},
	}
	for _, c := range cases {
		if got := impl.SpineAll(c.s); !slices.Equal(got, c.want) {
			t.Errorf("SpineAll of %s is %s", tellSpine(c.s), some(got))
		}
	}
}

func TestSpinesOfMany(t *testing.T) {
	fronts := fewFronts()
	joined, came, since := 0, 0, 0
	for _, s := range spineLists() {
		for place := -1; place <= len(s.Layers); place++ {
			want, wantOk := wantSpineJoin(s, place)
			got, ok := impl.SpineJoin(s, place)
			checkSpine(t, "SpineJoin", s, got, ok, want, wantOk)
			if ok {
				joined++
			}
		}
		for _, b := range comers(s) {
			want, wantOk := wantSpineIn(s, b)
			got, ok := impl.SpineIn(s, b)
			checkSpine(t, "SpineIn of "+some(b), s, got, ok, want, wantOk)
			if ok && len(b) > 0 {
				came++
			}
		}
		for _, f := range fronts {
			want, wantOk := wantSpineSince(s, f)
			got, ok := impl.SpineSince(s, f)
			checkSpine(t, "SpineSince", s, got, ok, want, wantOk)
			if ok {
				since++
			}
		}
		all, _ := wantBatch(s.Layers...)
		if got := impl.SpineAll(s); !slices.Equal(got, all) {
			t.Fatalf("SpineAll of %s is %s", tellSpine(s), some(got))
		}
	}
	if joined < 800 || came < 4000 || since < 4000 {
		t.Errorf("%d were made one, %d came in, %d are since", joined, came, since)
	}
}

func TestSpineAtAllTimesOfMany(t *testing.T) {
	for _, s := range spineLists() {
		rows := slices.Concat(s.Layers...)
		for _, u := range allTimes() {
			var want []impl.Item
			if wantAsked(s.Since, u) {
				want = wantItems(rows, u)
			}
			if got, ok := impl.SpineAt(s, u); ok != wantAsked(s.Since, u) || !slices.Equal(got, want) {
				t.Fatalf("SpineAt of %s at %s is %t, %s", tellSpine(s), tell(u), ok, some(got))
			}
		}
	}
}

func TestWrongSpinesAreNothing(t *testing.T) {
	good := []impl.Row{row(0, 1, 7, 7, 2)}
	for why, s := range badSpines() {
		for _, b := range [][]impl.Row{nil, good} {
			got, ok := impl.SpineIn(s, b)
			checkSpine(t, "SpineIn, "+why, s, got, ok, impl.Spine{}, false)
		}
		for place := -1; place <= layersMost+1; place++ {
			got, ok := impl.SpineJoin(s, place)
			checkSpine(t, "SpineJoin, "+why, s, got, ok, impl.Spine{}, false)
		}
		for _, f := range [][]impl.Time{nil, {at(0, 0)}, {at(7, 7)}, {at(1, 3), at(3, 1)}, s.Since} {
			got, ok := impl.SpineSince(s, f)
			checkSpine(t, "SpineSince, "+why, s, got, ok, impl.Spine{}, false)
		}
		for _, u := range []impl.Time{at(0, 0), at(3, 3), at(7, 7), at(8, 8), at(math.MinInt, math.MaxInt)} {
			if got, ok := impl.SpineAt(s, u); ok || len(got) != 0 {
				t.Errorf("%s: SpineAt %s is %t, %v", why, tell(u), ok, got)
			}
		}
		if got := impl.SpineAll(s); len(got) != 0 {
			t.Errorf("%s: SpineAll is %s", why, some(got))
		}
	}
}
