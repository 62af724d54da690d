package tests

import (
	"slices"
	"testing"

	"loop.example/tideline/impl"
)

// layerMark is no layer of an ok spine.
func layerMark() []impl.Row {
	return []impl.Row{rowMark}
}

// roomySpine is a spine with room behind the end of each of its lists, filled with marks.
func roomySpine(s impl.Spine) impl.Spine {
	layers := withRoom(s.Layers, layerMark())
	for i, rows := range s.Layers {
		layers[i] = withRoom(rows, rowMark)
	}
	return spine(withRoom(s.Since, mark), layers...)
}

func spineUntouched(roomy impl.Spine, s impl.Spine) bool {
	if !untouched(roomy.Since, s.Since, mark) || len(roomy.Layers) != len(s.Layers) {
		return false
	}
	for _, rows := range roomy.Layers[len(s.Layers) : len(s.Layers)+room] {
		if !slices.Equal(rows, layerMark()) {
			return false
		}
	}
	for i, rows := range s.Layers {
		if !untouched(roomy.Layers[i], rows, rowMark) {
			return false
		}
	}
	return true
}

func copySpine(s impl.Spine) impl.Spine {
	made := impl.Spine{Since: slices.Clone(s.Since)}
	for _, rows := range s.Layers {
		made.Layers = append(made.Layers, slices.Clone(rows))
	}
	return made
}

// memorySpines are spines, ok and not, of each number of layers.
func memorySpines() []impl.Spine {
	spines := sampleSpines()
	for i, s := range spineLists() {
		if i%7 == 0 {
			spines = append(spines, s)
		}
	}
	bad := badSpines()
	for _, why := range []string{"a layer too many", "a row too many in two", "a layer that is no batch: 3", "no front: out of order"} {
		spines = append(spines, bad[why])
	}
	return spines
}

// spineMakers are all that make a spine of another one.
func spineMakers(b []impl.Row, f []impl.Time) map[string]func(impl.Spine) impl.Spine {
	return map[string]func(impl.Spine) impl.Spine{
		"SpineIn": func(s impl.Spine) impl.Spine {
			made, _ := impl.SpineIn(s, b)
			return made
		},
		"SpineIn of nothing": func(s impl.Spine) impl.Spine {
			made, _ := impl.SpineIn(s, nil)
			return made
		},
		"SpineIn of its first layer": func(s impl.Spine) impl.Spine {
			if len(s.Layers) == 0 {
				return impl.Spine{}
			}
			made, _ := impl.SpineIn(s, s.Layers[0])
			return made
		},
		"SpineJoin of the first": func(s impl.Spine) impl.Spine {
			made, _ := impl.SpineJoin(s, 0)
			return made
		},
		"SpineJoin of the last": func(s impl.Spine) impl.Spine {
			made, _ := impl.SpineJoin(s, len(s.Layers)-2)
			return made
		},
		"SpineSince": func(s impl.Spine) impl.Spine {
			made, _ := impl.SpineSince(s, f)
			return made
		},
		"SpineSince of its own": func(s impl.Spine) impl.Spine {
			made, _ := impl.SpineSince(s, s.Since)
			return made
		},
	}
}

func TestNoSpineIsWrittenInto(t *testing.T) {
	rows, front := []impl.Row{row(0, 1, 7, 7, 2), row(1, 5, 7, 7, 1)}, []impl.Time{at(5, 7), at(7, 5)}
	b, f := withRoom(rows, rowMark), withRoom(front, mark)
	for _, s := range memorySpines() {
		roomy := roomySpine(s)
		impl.SpineOk(roomy)
		impl.SpineAll(roomy)
		for _, u := range []impl.Time{at(0, 0), at(2, 2), at(7, 7), at(8, 0)} {
			impl.SpineAt(roomy, u)
		}
		if !spineUntouched(roomy, s) {
			t.Fatalf("%s was written into as it was asked", tellSpine(s))
		}
		for name, maker := range spineMakers(b, f) {
			maker(roomy)
			if !spineUntouched(roomy, s) || !untouched(b, rows, rowMark) || !untouched(f, front, mark) {
				t.Fatalf("%s wrote into %s, or into what came in", name, tellSpine(s))
			}
		}
	}
}

// scribbleSpine writes over each list of a spine, its spare room included, and tells the name of one that another one was written over with.
func scribbleSpine(s impl.Spine) string {
	now := copySpine(s)
	over := row(2, 2, 5, 5, 5)
	for i := range s.Layers {
		scribble(s.Layers[i], over)
		for j := range now.Layers[i] {
			now.Layers[i][j] = over
		}
		if !sameSpine(s, now) {
			return "a layer"
		}
	}
	scribble(s.Since, at(5, 5))
	for j := range now.Since {
		now.Since[j] = at(5, 5)
	}
	if !sameSpine(s, now) {
		return "Since"
	}
	scribble(s.Layers, layerMark())
	return ""
}

func TestWhatIsMadeOfSpinesSharesNoMemory(t *testing.T) {
	rows, front := []impl.Row{row(0, 1, 7, 7, 2), row(1, 5, 7, 7, 1)}, []impl.Time{at(5, 7), at(7, 5)}
	made := 0
	for _, s := range memorySpines() {
		roomy, b, f := roomySpine(s), withRoom(rows, rowMark), withRoom(front, mark)
		for name, maker := range spineMakers(b, f) {
			first := maker(roomy)
			want := copySpine(first)
			second := maker(roomy)
			if list := scribbleSpine(first); list != "" {
				t.Fatalf("%s of %s: %s shares memory with another list", name, tellSpine(s), list)
			}
			if !spineUntouched(roomy, s) || !untouched(b, rows, rowMark) || !untouched(f, front, mark) {
				t.Fatalf("%s of %s shares memory with what came in", name, tellSpine(s))
			}
			if !sameSpine(second, want) || !sameSpine(maker(roomy), want) {
				t.Fatalf("two answers of %s of %s share memory", name, tellSpine(s))
			}
			if !noSpine(want) {
				made++
			}
		}
	}
	if made < 300 {
		t.Errorf("only %d spines are made", made)
	}
}

func TestWhatSpinesTellSharesNoMemory(t *testing.T) {
	for _, s := range memorySpines() {
		roomy := roomySpine(s)
		all, wantAll := impl.SpineAll(roomy), slices.Clone(impl.SpineAll(roomy))
		items, _ := impl.SpineAt(roomy, at(7, 7))
		wantThere := slices.Clone(items)
		scribble(all, row(2, 2, 5, 5, 5))
		scribble(items, item(2, 2, 2))
		again, _ := impl.SpineAt(roomy, at(7, 7))
		if !spineUntouched(roomy, s) || !slices.Equal(impl.SpineAll(roomy), wantAll) || !slices.Equal(again, wantThere) {
			t.Fatalf("what %s tells shares memory with it", tellSpine(s))
		}
	}
}

// Layers that are pieces of one list, with what comes in behind them, and fronts that are pieces of one.
func TestPiecesOfOneListAsLayers(t *testing.T) {
	whole, times := manyRows(20, 1), []impl.Time{at(0, 6), at(2, 4), at(4, 2), at(6, 0)}
	a, f := withRoom(whole, rowMark), withRoom(times, mark)
	s := spine(f[:2], a[:3], a[3:6], a[6:9], a[9:12], a[12:15], a[15:18])
	got, ok := impl.SpineIn(spine(nil, s.Layers...), a[18:])
	want := [][]impl.Row{whole[:6], whole[6:9], whole[9:12], whole[12:15], whole[15:18], whole[18:]}
	checkSpine(t, "SpineIn", s, got, ok, spine(nil, want...), true)
	got, ok = impl.SpineSince(s, f[1:2])
	checkSpine(t, "SpineSince", s, got, ok, spine(times[1:2], piecesOf(whole, 3, 3, 3, 3, 3, 3)...), true)
	if list := scribbleSpine(got); list != "" {
		t.Errorf("%s shares memory with another list", list)
	}
	same := spine(f[1:3], a[:3], a[:3], a[:3])
	got, ok = impl.SpineSince(same, f[1:3])
	checkSpine(t, "layers that are one list", same, got, ok, spine(times[1:3], whole[:3], whole[:3], whole[:3]), true)
	if list := scribbleSpine(got); list != "" {
		t.Errorf("%s of what was one list shares memory", list)
	}
	if !untouched(a, whole, rowMark) || !untouched(f, times, mark) {
		t.Errorf("%v or %v was written into", a, f)
	}
}
