package tests

import (
	"fmt"
	"slices"

	"loop.example/tideline/impl"
)

// The model of spines puts the rows of layers behind each other, moves them, and sums them up at once.

const layersMost = 6

func spine(since []impl.Time, layers ...[]impl.Row) impl.Spine {
	return impl.Spine{Layers: layers, Since: since}
}

// tellSpine is a spine as a test tells it: not all rows of many.
func tellSpine(s impl.Spine) string {
	told := fmt.Sprintf("spine since %v", s.Since)
	for _, rows := range s.Layers[:min(len(s.Layers), layersMost+1)] {
		told += " [" + some(rows) + "]"
	}
	return told
}

func sameSpine(s impl.Spine, u impl.Spine) bool {
	return slices.Equal(s.Since, u.Since) && slices.EqualFunc(s.Layers, u.Layers, slices.Equal[[]impl.Row])
}

func noSpine(s impl.Spine) bool {
	return len(s.Layers) == 0 && len(s.Since) == 0
}

// spineSize is how many rows all layers have.
func spineSize(s impl.Spine) int {
	size := 0
	for _, rows := range s.Layers {
		size += len(rows)
	}
	return size
}

func within(n int, below int) bool {
	return n >= 0 && n < below
}

func wantFrontOk(f []impl.Time) bool {
	for _, s := range f {
		if !within(s.A, side) || !within(s.B, side) {
			return false
		}
	}
	ups := upsets()
	return slices.Equal(firstsOf(ups, coverOf(ups, f)), f)
}

func wantBatchOk(list []impl.Row) bool {
	for _, r := range list {
		if !within(r.Key, keys) || !within(r.Val, vals) || !within(r.At.A, side) || !within(r.At.B, side) || r.Diff < -diffMost || r.Diff > diffMost {
			return false
		}
	}
	own, ok := wantBatch(list)
	return ok && slices.Equal(own, list)
}

func wantSpineOk(s impl.Spine) bool {
	for _, rows := range s.Layers {
		if !wantBatchOk(rows) {
			return false
		}
	}
	return len(s.Layers) <= layersMost && spineSize(s) <= rowsMost && wantFrontOk(s.Since)
}

// wantAsked says whether a spine with that Since may be asked at an ok time.
func wantAsked(since []impl.Time, s impl.Time) bool {
	asked := len(since) == 0
	for _, u := range since {
		asked = asked || u.A <= s.A && u.B <= s.B
	}
	return asked
}

// wantSpineJoin is a spine, which is ok, with two layers made one, and whether that can be.
func wantSpineJoin(s impl.Spine, place int) (impl.Spine, bool) {
	if place < 0 || place > len(s.Layers)-2 {
		return impl.Spine{}, false
	}
	one, ok := wantBatch(wantMoved(s.Layers[place], s.Since), wantMoved(s.Layers[place+1], s.Since))
	if !ok {
		return impl.Spine{}, false
	}
	return spine(s.Since, slices.Concat(s.Layers[:place], [][]impl.Row{one}, s.Layers[place+2:])...), true
}

// wantLeastPair is the place of the first two of at least two layers than which no others side by side have fewer rows together.
func wantLeastPair(s impl.Spine) int {
	for size := 0; ; size++ {
		for place := range len(s.Layers) - 1 {
			if len(s.Layers[place])+len(s.Layers[place+1]) == size {
				return place
			}
		}
	}
}

// wantSpineIn is a spine, which is ok, to which rows came, and whether they can.
func wantSpineIn(s impl.Spine, b []impl.Row) (impl.Spine, bool) {
	if !wantBatchOk(b) || slices.ContainsFunc(b, func(r impl.Row) bool { return !wantAsked(s.Since, r.At) }) {
		return impl.Spine{}, false
	}
	if len(s.Layers) == layersMost {
		joined, ok := wantSpineJoin(s, wantLeastPair(s))
		if !ok {
			return impl.Spine{}, false
		}
		s = joined
	}
	if spineSize(s)+len(b) > rowsMost {
		return impl.Spine{}, false
	}
	return spine(s.Since, slices.Concat(s.Layers, [][]impl.Row{b})...), true
}

// wantSpineSince is a spine, which is ok, with another front, and whether it can have that.
func wantSpineSince(s impl.Spine, f []impl.Time) (impl.Spine, bool) {
	if len(f) == 0 || !wantFrontOk(f) || slices.ContainsFunc(f, func(u impl.Time) bool { return !wantAsked(s.Since, u) }) {
		return impl.Spine{}, false
	}
	return spine(f, s.Layers...), true
}

// spread are rows in order as so many layers of nearly as many rows each, the places of which come by turns.
func spread(list []impl.Row, layers int) [][]impl.Row {
	all := make([][]impl.Row, layers)
	for i, r := range list {
		all[i%layers] = append(all[i%layers], r)
	}
	return all
}

// piecesOf are rows in order as layers of these sizes, one behind the other.
func piecesOf(list []impl.Row, sizes ...int) [][]impl.Row {
	var all [][]impl.Row
	for _, size := range sizes {
		all = append(all, slices.Clone(list[:size]))
		list = list[size:]
	}
	return all
}

// sampleSpines are ok spines with the edges of the document: no layers, one, and as many as can be, empty ones, as many rows as can be, and such as cancel one another, come together when they are moved, and are too much together.
func sampleSpines() []impl.Spine {
	two := []impl.Time{at(1, 3), at(3, 1)}
	r, less := row(1, 5, 2, 2, 3), row(1, 5, 2, 2, -3)
	many := manyRows(rowsMost, 1)
	spines := []impl.Spine{
		{},
		spine(two),
		spine([]impl.Time{at(7, 7)}),
		spine(nil, nil),
		spine(two, nil, nil),
		spine(nil, make([][]impl.Row, layersMost)...),
		spine(nil, []impl.Row{r}),
		spine(two, []impl.Row{r}, []impl.Row{less}),
		spine(nil, []impl.Row{r}, nil, []impl.Row{less}),
		spine(nil, []impl.Row{r}, []impl.Row{r}, []impl.Row{less}, []impl.Row{r}, []impl.Row{less}, []impl.Row{less}),
		spine(two, []impl.Row{row(1, 5, 0, 0, 2)}, []impl.Row{row(1, 5, 1, 1, -2)}, []impl.Row{row(1, 5, 1, 0, 4)}),
		spine([]impl.Time{at(7, 7)}, spread(many, layersMost)...),
		spine(nil, []impl.Row{row(0, 0, 0, 0, diffMost)}, []impl.Row{row(0, 0, 0, 0, 1)}, []impl.Row{row(0, 0, 0, 0, -1)}),
		spine([]impl.Time{at(1, 0)}, []impl.Row{row(0, 0, 0, 0, -diffMost)}, []impl.Row{row(0, 0, 1, 0, -1)}),
		spine([]impl.Time{at(1, 0)}, []impl.Row{row(0, 0, 0, 0, diffMost)}, []impl.Row{row(0, 0, 0, 0, diffMost), row(0, 0, 1, 0, -diffMost)}),
		spine(nil, piecesOf(many, 1, 1, 1, 1, 1, 395)...),
		spine(two, piecesOf(many, 200, 0, 0, 0, 0, 200)...),
	}
	for layers := 1; layers <= layersMost; layers++ {
		spines = append(spines, spine(nil, spread(many, layers)...), spine(two, spread(many[1:], layers)...))
	}
	return spines
}

// batch is so many rows, summed up.
func (s *steps) batch(k kind, size int) []impl.Row {
	rows, _ := wantBatch(s.rows(k, size))
	return rows
}

// spineLists are all ok spines that the tests of spines ask of.
func spineLists() []impl.Spine {
	spines := sampleSpines()
	fronts := fewFronts()
	s := steps(12)
	for _, k := range []kind{{1, 1, 2, 1}, {2, 2, 3, 2}, {4, 4, 8, 3}, {4, 100, 8, 99999}, {1, 2, 2, 40000}} {
		for _, size := range []int{2, 8, 40} {
			for layers := range layersMost + 1 {
				for _, since := range [][]impl.Time{nil, fronts[s.below(len(fronts))], fronts[s.below(len(fronts))], {at(s.below(3), s.below(3))}} {
					made := impl.Spine{Since: since}
					for range layers {
						made.Layers = append(made.Layers, s.batch(k, s.below(size+1)))
					}
					spines = append(spines, made)
				}
			}
		}
	}
	return spines
}

// comers are batches to come to a spine: none, such as say the same once more, or take away what is there, such as are at Since, or behind it, and not, and many.
func comers(s impl.Spine) [][]impl.Row {
	st := steps(49 + len(s.Layers) + len(s.Since))
	all := [][]impl.Row{
		nil,
		{row(1, 5, 7, 7, 1)},
		{row(1, 5, 0, 0, 1)},
		{row(1, 5, 0, 7, 1), row(1, 5, 7, 0, 1)},
		{row(0, 0, 3, 3, diffMost), row(0, 1, 3, 3, -diffMost), row(3, 99, 7, 7, 2)},
		manyRows(rowsMost, 1),
	}
	if len(s.Layers) > 0 {
		last := s.Layers[len(s.Layers)-1]
		all = append(all, last, wantLess(last))
	}
	for _, k := range []kind{{1, 1, 2, 1}, {2, 2, 3, 2}, {4, 100, 8, 60}} {
		for _, size := range []int{1, 5, 60} {
			rows := st.batch(k, size)
			moved, _ := wantBatch(wantMoved(rows, s.Since))
			behind := slices.DeleteFunc(slices.Clone(rows), func(r impl.Row) bool { return !wantAsked(s.Since, r.At) })
			all = append(all, rows, moved, behind)
		}
	}
	return all
}

// badBatches are rows that are no batch, ok or not.
func badBatches() [][]impl.Row {
	return append(badLists(),
		[]impl.Row{row(1, 5, 3, 3, 0)},
		[]impl.Row{row(1, 5, 3, 3, 1), row(1, 5, 3, 3, 1)},
		[]impl.Row{row(1, 5, 3, 3, 1), row(1, 5, 3, 3, -1)},
		[]impl.Row{row(1, 5, 3, 3, 1), row(1, 5, 3, 2, 1)},
		[]impl.Row{row(1, 5, 3, 3, 1), row(1, 4, 3, 3, 1)},
		[]impl.Row{row(1, 5, 3, 3, 1), row(0, 5, 3, 3, 1)})
}

// badSpines are spines that are not ok, and why.
func badSpines() map[string]impl.Spine {
	good := []impl.Row{row(0, 1, 1, 3, 2), row(3, 0, 2, 2, -4)}
	two := []impl.Time{at(1, 3), at(3, 1)}
	more := manyRows(rowsMost+1, 1)
	bad := map[string]impl.Spine{
		"a layer too many":               spine(nil, slices.Repeat([][]impl.Row{good}, layersMost+1)...),
		"an empty layer too many":        spine(two, make([][]impl.Row, layersMost+1)...),
		"many layers too many":           spine(nil, make([][]impl.Row, 1000)...),
		"a row too many in one layer":    spine(nil, more),
		"a row too many in two":          spine(two, more[:1], more[1:]),
		"a row too many in as many":      spine(nil, spread(more, layersMost)...),
		"the same rows, one too many":    spine(nil, more[:201], more[:200]),
		"rows that cancel, one too many": spine([]impl.Time{at(7, 7)}, manyRows(201, 1), manyRows(200, -1)),
		"many rows too many":             spine(nil, slices.Repeat([][]impl.Row{manyRows(rowsMost, 1)}, layersMost)...),
	}
	for i, rows := range badBatches() {
		layers := slices.Repeat([][]impl.Row{good}, 1+i%layersMost)
		layers[i/layersMost%len(layers)] = rows
		bad[fmt.Sprintf("a layer that is no batch: %d", i)] = spine(nil, layers...)
		bad[fmt.Sprintf("a layer that is no batch, since two times: %d", i)] = spine(two, rows, good)
	}
	for why, f := range badFronts() {
		bad["no front: "+why] = spine(f, good, good)
		bad["no front, and no layers: "+why] = spine(f)
	}
	return bad
}
