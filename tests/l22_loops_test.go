package tests

import (
	"math"
	"slices"
	"testing"

	"loop.example/tideline/impl"
)

func TestLimitOfRounds(t *testing.T) {
	if impl.LoopMax != roundsMost {
		t.Error(impl.LoopMax)
	}
}

func TestLoopStep(t *testing.T) {
	chain := []impl.Item{item(0, 1, 1), item(1, 2, 1), item(2, 3, 1)}
	cases := []struct{ ties, first, now, want []impl.Item }{
		{chain, []impl.Item{item(0, 7, 1)}, keysOf(0), keysOf(0, 1)},
		{chain, nil, keysOf(0), keysOf(1)},
		{chain, nil, keysOf(0, 1, 2), keysOf(1, 2, 3)},
		{chain, nil, keysOf(3), nil},
		{chain, nil, nil, nil},
		{chain, keysOf(3), nil, keysOf(3)},
		{nil, keysOf(3), keysOf(0, 1, 2, 3), keysOf(3)},
		{nil, nil, keysOf(0, 1, 2, 3), nil},
		// The values of what is first, and of what is come to, don't matter; that of a tie does, modulo RowKeys.
		{nil, []impl.Item{item(1, 98, 5), item(2, 99, 7)}, nil, keysOf(1, 2)},
		{[]impl.Item{item(1, 2, 4)}, nil, []impl.Item{item(1, 77, 3)}, keysOf(2)},
		{[]impl.Item{item(0, 97, 1)}, nil, keysOf(0), keysOf(1)},
		{[]impl.Item{item(0, 99, 1)}, nil, keysOf(0), keysOf(3)},
		{[]impl.Item{item(0, 4, 1)}, nil, keysOf(0), keysOf(0)},
		{[]impl.Item{item(3, 3, 1)}, nil, keysOf(3), keysOf(3)},
		{[]impl.Item{item(2, 1, 1), item(3, 0, 1)}, nil, keysOf(2, 3), keysOf(0, 1)},
		// Of less than nothing, and of what cancels.
		{nil, []impl.Item{item(1, 5, -1)}, nil, nil},
		{nil, []impl.Item{item(1, 5, -1), item(1, 6, 1)}, nil, nil},
		{nil, []impl.Item{item(1, 5, -1), item(1, 6, 2)}, nil, keysOf(1)},
		{nil, []impl.Item{item(1, 5, -2), item(1, 6, 1), item(2, 6, 1)}, nil, keysOf(2)},
		{[]impl.Item{item(0, 1, -1)}, nil, keysOf(0), nil},
		{[]impl.Item{item(0, 1, -1)}, keysOf(1), keysOf(0), nil},
		{[]impl.Item{item(0, 1, -1)}, []impl.Item{item(1, 0, 2)}, keysOf(0), keysOf(1)},
		{[]impl.Item{item(0, 1, -1)}, nil, []impl.Item{item(0, 0, -1)}, keysOf(1)},
		{[]impl.Item{item(0, 1, 1)}, nil, []impl.Item{item(0, 0, -1)}, nil},
		{[]impl.Item{item(0, 1, 1), item(0, 5, -1)}, nil, keysOf(0), nil},
		{[]impl.Item{item(0, 1, 1), item(0, 5, 1), item(0, 9, -1)}, nil, keysOf(0), keysOf(1)},
		{[]impl.Item{item(0, 1, 1), item(2, 1, -1)}, nil, keysOf(0, 2), nil},
		{[]impl.Item{item(0, 1, 1), item(2, 1, -1)}, nil, keysOf(0), keysOf(1)},
		{[]impl.Item{item(0, 1, 2), item(2, 1, -3)}, nil, []impl.Item{item(0, 0, 3), item(2, 0, 2)}, nil},
		{[]impl.Item{item(0, 1, 2), item(2, 1, -3)}, nil, []impl.Item{item(0, 0, 5), item(2, 0, 3)}, keysOf(1)},
		{[]impl.Item{item(0, 1, 1)}, nil, []impl.Item{item(0, 0, 1), item(0, 1, -1)}, nil},
		{[]impl.Item{item(0, 1, 1)}, nil, []impl.Item{item(0, 0, 2), item(0, 1, -1)}, keysOf(1)},
		{[]impl.Item{item(0, 1, 1)}, []impl.Item{item(1, 4, -1)}, keysOf(0), nil},
		{[]impl.Item{item(0, 1, 2)}, []impl.Item{item(1, 4, -1)}, keysOf(0), keysOf(1)},
		{allItems(1), nil, keysOf(2), keysOf(0, 1, 2, 3)},
		{allItems(1), nil, allItems(1), keysOf(0, 1, 2, 3)},
		{allItems(1), nil, allItems(-1), nil},
		{allItems(-1), nil, allItems(-1), keysOf(0, 1, 2, 3)},
	}
	for _, c := range cases {
		if got := impl.LoopStep(c.ties, c.first, c.now); !slices.Equal(got, c.want) {
			t.Errorf("LoopStep of %s, %s and %s is %s", some(c.ties), some(c.first), some(c.now), some(got))
		}
	}
}

// A tie of one key to any value, from one that is come to and from one that is not.
func TestLoopStepOfEachTie(t *testing.T) {
	for _, tie := range allItems(3) {
		for key := range keys {
			var want []impl.Item
			if key == tie.Key {
				want = keysOf(tie.Val % 4)
			}
			if got := impl.LoopStep([]impl.Item{tie}, nil, []impl.Item{item(key, 31, 2)}); !slices.Equal(got, want) {
				t.Errorf("LoopStep of %v from %d is %v", tie, key, got)
			}
		}
	}
}

// SetOnce is of ok items alone: where there is more, or less, of one key than a Count can be, nothing is come to.
func TestLoopStepAtTheLimitOfACountAndBeyondIt(t *testing.T) {
	const root = 1 << 20
	cases := []struct{ ties, first, now, want []impl.Item }{
		{nil, []impl.Item{item(0, 1, countMost), item(2, 0, 1)}, nil, keysOf(0, 2)},
		{nil, []impl.Item{item(0, 1, countMost-1), item(0, 2, 1), item(2, 0, 1)}, nil, keysOf(0, 2)},
		{nil, []impl.Item{item(0, 1, countMost), item(0, 2, 1), item(2, 0, 1)}, nil, nil},
		{nil, []impl.Item{item(0, 1, countMost), item(0, 2, 1), item(0, 3, -1), item(2, 0, 1)}, nil, keysOf(0, 2)},
		{nil, []impl.Item{item(0, 1, countMost), item(0, 2, countMost), item(0, 3, -countMost)}, nil, keysOf(0)},
		{nil, []impl.Item{item(0, 1, countMost), item(1, 1, countMost), item(2, 1, countMost), item(3, 1, countMost)}, nil, keysOf(0, 1, 2, 3)},
		{nil, []impl.Item{item(0, 1, -countMost), item(2, 0, 1)}, nil, keysOf(2)},
		{nil, []impl.Item{item(0, 1, -countMost), item(0, 2, -1), item(2, 0, 1)}, nil, nil},
		{nil, []impl.Item{item(0, 1, -countMost), item(0, 2, -1), item(0, 3, 1), item(2, 0, 1)}, nil, keysOf(2)},
		{[]impl.Item{item(0, 1, root)}, keysOf(2), []impl.Item{item(0, 0, root)}, keysOf(1, 2)},
		{[]impl.Item{item(0, 1, root)}, keysOf(1, 2), []impl.Item{item(0, 0, root)}, nil},
		{[]impl.Item{item(0, 1, root)}, []impl.Item{item(1, 0, -1), item(2, 0, 1)}, []impl.Item{item(0, 0, root)}, keysOf(1, 2)},
		{[]impl.Item{item(0, 1, root)}, keysOf(2), []impl.Item{item(0, 0, root+1)}, nil},
		{[]impl.Item{item(0, 1, -root)}, keysOf(2), []impl.Item{item(0, 0, root)}, keysOf(2)},
		{[]impl.Item{item(0, 1, -root)}, keysOf(2), []impl.Item{item(0, 0, root+1)}, nil},
		{[]impl.Item{item(0, 1, -root)}, keysOf(2), []impl.Item{item(0, 0, -root)}, keysOf(1, 2)},
		{[]impl.Item{item(0, 1, countMost)}, keysOf(2), keysOf(0), keysOf(1, 2)},
		{[]impl.Item{item(0, 1, countMost), item(0, 5, 1)}, keysOf(2), keysOf(0), nil},
		{[]impl.Item{item(0, 1, countMost), item(0, 5, 1), item(0, 9, -1)}, keysOf(2), keysOf(0), keysOf(1, 2)},
		{[]impl.Item{item(0, 1, countMost), item(3, 1, 1)}, keysOf(2), keysOf(0, 3), nil},
	}
	for _, c := range cases {
		if got := impl.LoopStep(c.ties, c.first, c.now); !slices.Equal(got, c.want) {
			t.Errorf("LoopStep of %v, %v and %v is %v", c.ties, c.first, c.now, got)
		}
	}
}

// Products that are no int are too much, and are not, if they cancel one another.
func TestLoopStepOfProductsThatAreNoInt(t *testing.T) {
	for _, n := range []int{1 << 32, 1 << 33, 1<<31 + 1, 1 << 36, countMost - 1, countMost} {
		for _, now := range [][]impl.Item{{item(0, 0, n)}, {item(0, 0, -n)}} {
			if got := impl.LoopStep([]impl.Item{item(0, 1, n)}, keysOf(2), now); len(got) != 0 {
				t.Errorf("LoopStep of a tie of %d and %v is %v", n, now, got)
			}
			back := []impl.Item{item(0, 1, n), item(0, 5, -n)}
			if got := impl.LoopStep(back, keysOf(2), now); !slices.Equal(got, keysOf(2)) {
				t.Errorf("LoopStep of %v and %v is %v", back, now, got)
			}
			if got := impl.LoopStep(back, keysOf(1, 2), now); !slices.Equal(got, keysOf(1, 2)) {
				t.Errorf("LoopStep of %v, 1 of 1:0 and 2:0, and %v is %v", back, now, got)
			}
		}
	}
	all := allItems(countMost)
	for _, two := range [][2][]impl.Item{{all, all}, {all, allItems(-countMost)}, {allItems(-countMost), allItems(-countMost)}} {
		if got := impl.LoopStep(two[0], keysOf(2), two[1]); len(got) != 0 {
			t.Errorf("LoopStep of all of %d and all of %d is %v", two[0][0].Count, two[1][0].Count, got)
		}
	}
}

func TestLoopStepOfMany(t *testing.T) {
	sets := itemLists()
	none := 0
	for i, ties := range sets {
		for j, first := range partners(sets, i) {
			for _, now := range [][]impl.Item{nil, keysOf(0), keysOf(0, 1, 2, 3), first, sets[(i*13+j*29+1)%len(sets)]} {
				got, want := impl.LoopStep(ties, first, now), wantLoopStep(ties, first, now)
				if !slices.Equal(got, want) {
					t.Fatalf("LoopStep of %s, %s and %s is %s, not %s", some(ties), some(first), some(now), some(got), some(want))
				}
				if len(want) == 0 {
					none++
				}
			}
		}
	}
	if none > 2000 {
		t.Errorf("of %d nothing is come to", none)
	}
}

func TestLoopSet(t *testing.T) {
	chain := []impl.Item{item(0, 1, 1), item(1, 2, 1), item(2, 3, 1)}
	one := []impl.Item{item(0, 7, 1)}
	all := keysOf(0, 1, 2, 3)
	cases := []struct {
		ties, first []impl.Item
		want        [roundsMost + 1][]impl.Item
	}{
		{chain, one, [...][]impl.Item{nil, keysOf(0), keysOf(0, 1), keysOf(0, 1, 2), all, all, all}},
		{chain, nil, [...][]impl.Item{nil, nil, nil, nil, nil, nil, nil}},
		{nil, one, [...][]impl.Item{nil, keysOf(0), keysOf(0), keysOf(0), keysOf(0), keysOf(0), keysOf(0)}},
		{chain, keysOf(2), [...][]impl.Item{nil, keysOf(2), keysOf(2, 3), keysOf(2, 3), keysOf(2, 3), keysOf(2, 3), keysOf(2, 3)}},
		{append(slices.Clone(chain), item(3, 0, 1)), keysOf(2), [...][]impl.Item{nil, keysOf(2), keysOf(2, 3), keysOf(0, 2, 3), all, all, all}},
		{[]impl.Item{item(0, 0, 1), item(1, 1, 1)}, one, [...][]impl.Item{nil, keysOf(0), keysOf(0), keysOf(0), keysOf(0), keysOf(0), keysOf(0)}},
		// What stops itself is come to every second time.
		{[]impl.Item{item(0, 0, -1)}, one, [...][]impl.Item{nil, keysOf(0), nil, keysOf(0), nil, keysOf(0), nil}},
		// As many are come to as in the round before, and others.
		{[]impl.Item{item(0, 0, -1), item(0, 1, 1)}, one, [...][]impl.Item{nil, keysOf(0), keysOf(1), keysOf(0), keysOf(1), keysOf(0), keysOf(1)}},
		// Nothing is come to in the midst of it.
		{[]impl.Item{item(0, 1, 1), item(1, 0, -1)}, one, [...][]impl.Item{nil, keysOf(0), keysOf(0, 1), keysOf(1), nil, keysOf(0), keysOf(0, 1)}},
		// One that comes in a later round takes away what an earlier one came to.
		{[]impl.Item{item(0, 1, 1), item(1, 2, 1), item(2, 3, 1), item(3, 1, -1)}, one, [...][]impl.Item{nil, keysOf(0), keysOf(0, 1), keysOf(0, 1, 2), all, keysOf(0, 2, 3), keysOf(0, 3)}},
		// What is less than none takes away as much as comes to it, and no less.
		{chain, []impl.Item{item(0, 0, 1), item(2, 0, -1)}, [...][]impl.Item{nil, keysOf(0), keysOf(0, 1), keysOf(0, 1), keysOf(0, 1), keysOf(0, 1), keysOf(0, 1)}},
		{[]impl.Item{item(0, 1, 1), item(1, 2, 2), item(2, 3, 1)}, []impl.Item{item(0, 0, 1), item(2, 0, -1)}, [...][]impl.Item{nil, keysOf(0), keysOf(0, 1), keysOf(0, 1, 2), all, all, all}},
		// What is come to is there once, so that it is led to by as many as the ties, and not by as many more in each round.
		{[]impl.Item{item(0, 1, 3), item(1, 2, 3), item(2, 3, 3)}, []impl.Item{item(0, 0, 9), item(3, 0, -4)}, [...][]impl.Item{nil, keysOf(0), keysOf(0, 1), keysOf(0, 1, 2), keysOf(0, 1, 2), keysOf(0, 1, 2), keysOf(0, 1, 2)}},
		// Too much is nothing, from which all begins again.
		{[]impl.Item{item(0, 0, 1)}, []impl.Item{item(0, 0, countMost)}, [...][]impl.Item{nil, keysOf(0), nil, keysOf(0), nil, keysOf(0), nil}},
		{[]impl.Item{item(0, 0, 1)}, []impl.Item{item(0, 0, countMost-1)}, [...][]impl.Item{nil, keysOf(0), keysOf(0), keysOf(0), keysOf(0), keysOf(0), keysOf(0)}},
		{chain, []impl.Item{item(0, 0, countMost), item(0, 1, 1), item(1, 0, 1)}, [...][]impl.Item{nil, nil, nil, nil, nil, nil, nil}},
	}
	for _, c := range cases {
		for rounds, want := range c.want {
			if got := impl.LoopSet(c.ties, c.first, rounds); !slices.Equal(got, want) {
				t.Errorf("LoopSet of %v and %v in %d rounds is %v", c.ties, c.first, rounds, got)
			}
		}
	}
}

func TestLoopSetOfMany(t *testing.T) {
	for _, l := range append(someLoops(), growingLoops()...) {
		for rounds := range roundsMost + 1 {
			if got, want := impl.LoopSet(l.ties, l.first, rounds), wantLoopSet(l.ties, l.first, rounds); !slices.Equal(got, want) {
				t.Fatalf("LoopSet of %s and %s in %d rounds is %s, not %s", some(l.ties), some(l.first), rounds, some(got), some(want))
			}
		}
	}
}

// All ties of two keys, each of more, of less, or of none, with all that can be first.
func TestLoopSetOfAllTiesOfTwoKeys(t *testing.T) {
	// countsOf are items of such places as have a Count in a number of figures 0, 1 and 2, which stand for none, one and less than none by one.
	countsOf := func(number int, places ...impl.Item) []impl.Item {
		var list []impl.Item
		for _, x := range places {
			if figure := number % 3; figure > 0 {
				list = append(list, item(x.Key, x.Val, 3-2*figure))
			}
			number /= 3
		}
		return list
	}
	for which := range 81 {
		ties := countsOf(which, item(0, 0, 0), item(0, 1, 0), item(1, 0, 0), item(1, 1, 0))
		for first := range 81 {
			firsts := countsOf(first, item(0, 0, 0), item(0, 2, 0), item(1, 0, 0), item(1, 2, 0))
			for rounds := range roundsMost + 1 {
				if got, want := impl.LoopSet(ties, firsts, rounds), wantLoopSet(ties, firsts, rounds); !slices.Equal(got, want) {
					t.Fatalf("LoopSet of %v and %v in %d rounds is %v, not %v", ties, firsts, rounds, got, want)
				}
			}
		}
	}
}

func TestLoopFlow(t *testing.T) {
	one := []impl.Row{row(0, 0, 0, 0, 1)}
	chain := []impl.Row{row(0, 1, 0, 0, 1), row(1, 2, 0, 0, 1), row(2, 3, 0, 0, 1)}
	cases := []struct {
		ties, first []impl.Row
		rounds      int
		want        []impl.Row
	}{
		{nil, nil, 1, nil},
		{nil, nil, 6, nil},
		{chain, nil, 6, nil},
		{nil, one, 1, []impl.Row{row(0, 0, 0, 1, 1)}},
		{nil, one, 6, []impl.Row{row(0, 0, 0, 1, 1)}},
		{nil, []impl.Row{row(1, 9, 2, 0, 4), row(1, 9, 5, 0, -4)}, 3, []impl.Row{row(1, 0, 2, 1, 1), row(1, 0, 5, 1, -1)}},
		{chain, one, 1, []impl.Row{row(0, 0, 0, 1, 1)}},
		{chain, one, 2, []impl.Row{row(0, 0, 0, 1, 1), row(1, 0, 0, 2, 1)}},
		{chain, one, 4, []impl.Row{row(0, 0, 0, 1, 1), row(1, 0, 0, 2, 1), row(2, 0, 0, 3, 1), row(3, 0, 0, 4, 1)}},
		{chain, one, 6, []impl.Row{row(0, 0, 0, 1, 1), row(1, 0, 0, 2, 1), row(2, 0, 0, 3, 1), row(3, 0, 0, 4, 1)}},
		{chain, []impl.Row{row(0, 3, 7, 0, 1)}, 6, []impl.Row{row(0, 0, 7, 1, 1), row(1, 0, 7, 2, 1), row(2, 0, 7, 3, 1), row(3, 0, 7, 4, 1)}},
		// A tie that is taken away: at that A the third round changes nothing, and what was come to in it, and behind it, is taken away there.
		{[]impl.Row{row(0, 1, 0, 0, 1), row(1, 2, 0, 0, 1), row(1, 2, 2, 0, -1), row(2, 3, 0, 0, 1)}, one, 6,
			[]impl.Row{row(0, 0, 0, 1, 1), row(1, 0, 0, 2, 1), row(2, 0, 0, 3, 1), row(2, 0, 2, 3, -1), row(3, 0, 0, 4, 1), row(3, 0, 2, 4, -1)}},
		{[]impl.Row{row(0, 1, 0, 0, 1), row(1, 2, 0, 0, 1), row(1, 2, 2, 0, -1), row(1, 2, 5, 0, 1), row(2, 3, 0, 0, 1)}, one, 3,
			[]impl.Row{row(0, 0, 0, 1, 1), row(1, 0, 0, 2, 1), row(2, 0, 0, 3, 1), row(2, 0, 2, 3, -1), row(2, 0, 5, 3, 1)}},
		// A tie of which there are two stays, if one is taken away, and goes with the other.
		{[]impl.Row{row(0, 1, 0, 0, 2), row(0, 1, 3, 0, -1), row(0, 1, 4, 0, -1)}, one, 6, []impl.Row{row(0, 0, 0, 1, 1), row(1, 0, 0, 2, 1), row(1, 0, 4, 2, -1)}},
		// The same key by another value.
		{[]impl.Row{row(0, 1, 0, 0, 1), row(0, 1, 3, 0, -1), row(0, 5, 3, 0, 1)}, one, 6, []impl.Row{row(0, 0, 0, 1, 1), row(1, 0, 0, 2, 1)}},
		{[]impl.Row{row(0, 1, 0, 0, 1), row(0, 97, 3, 0, -1)}, one, 6, []impl.Row{row(0, 0, 0, 1, 1), row(1, 0, 0, 2, 1), row(1, 0, 3, 2, -1)}},
		// What is first is taken away: ties that go round do not keep what they come to.
		{[]impl.Row{row(0, 1, 0, 0, 1), row(1, 0, 0, 0, 1)}, []impl.Row{row(0, 0, 0, 0, 1), row(0, 0, 3, 0, -1)}, 6,
			[]impl.Row{row(0, 0, 0, 1, 1), row(0, 0, 3, 1, -1), row(1, 0, 0, 2, 1), row(1, 0, 3, 2, -1)}},
		{[]impl.Row{row(1, 1, 0, 0, 1)}, []impl.Row{row(1, 1, 2, 0, 1), row(1, 1, 6, 0, -1)}, 6, []impl.Row{row(1, 0, 2, 1, 1), row(1, 0, 6, 1, -1)}},
		// A way that becomes shorter, and longer again.
		{[]impl.Row{row(0, 1, 0, 0, 1), row(0, 2, 1, 0, 1), row(0, 2, 4, 0, -1), row(1, 2, 0, 0, 1)}, one, 6,
			[]impl.Row{row(0, 0, 0, 1, 1), row(1, 0, 0, 2, 1), row(2, 0, 0, 3, 1), row(2, 0, 1, 2, 1), row(2, 0, 1, 3, -1), row(2, 0, 4, 2, -1), row(2, 0, 4, 3, 1)}},
		// What stops itself comes and goes in each round up to the last.
		{[]impl.Row{row(0, 0, 0, 0, -1)}, one, 6,
			[]impl.Row{row(0, 0, 0, 1, 1), row(0, 0, 0, 2, -1), row(0, 0, 0, 3, 1), row(0, 0, 0, 4, -1), row(0, 0, 0, 5, 1), row(0, 0, 0, 6, -1)}},
		{[]impl.Row{row(0, 0, 0, 0, -1)}, one, 5,
			[]impl.Row{row(0, 0, 0, 1, 1), row(0, 0, 0, 2, -1), row(0, 0, 0, 3, 1), row(0, 0, 0, 4, -1), row(0, 0, 0, 5, 1)}},
		{[]impl.Row{row(0, 0, 0, 0, -1), row(0, 0, 7, 0, 1)}, one, 3,
			[]impl.Row{row(0, 0, 0, 1, 1), row(0, 0, 0, 2, -1), row(0, 0, 0, 3, 1), row(0, 0, 7, 2, 1), row(0, 0, 7, 3, -1)}},
		// What comes every second time, and from another A on in the rounds between: two more, and two less, at once.
		{[]impl.Row{row(0, 0, 0, 0, -1), row(0, 1, 0, 0, 1), row(0, 1, 1, 0, -1), row(0, 2, 1, 0, 1), row(2, 1, 0, 0, 1)}, one, 4,
			[]impl.Row{row(0, 0, 0, 1, 1), row(0, 0, 0, 2, -1), row(0, 0, 0, 3, 1), row(0, 0, 0, 4, -1),
				row(1, 0, 0, 2, 1), row(1, 0, 0, 3, -1), row(1, 0, 0, 4, 1), row(1, 0, 1, 2, -1), row(1, 0, 1, 3, 2), row(1, 0, 1, 4, -2),
				row(2, 0, 1, 2, 1), row(2, 0, 1, 3, -1), row(2, 0, 1, 4, 1)}},
		// Less than none.
		{[]impl.Row{row(0, 1, 0, 0, 1), row(0, 1, 2, 0, -2), row(0, 1, 4, 0, 1), row(0, 1, 6, 0, 1)}, one, 2,
			[]impl.Row{row(0, 0, 0, 1, 1), row(1, 0, 0, 2, 1), row(1, 0, 2, 2, -1), row(1, 0, 6, 2, 1)}},
		{chain, []impl.Row{row(0, 0, 0, 0, -3), row(0, 0, 2, 0, 3), row(0, 0, 4, 0, 1)}, 2, []impl.Row{row(0, 0, 4, 1, 1), row(1, 0, 4, 2, 1)}},
		// Diffs at the limit, and Counts beyond that of a Diff.
		{[]impl.Row{row(0, 1, 0, 0, diffMost), row(0, 1, 1, 0, diffMost), row(0, 1, 2, 0, -diffMost), row(0, 1, 3, 0, -diffMost)}, one, 6,
			[]impl.Row{row(0, 0, 0, 1, 1), row(1, 0, 0, 2, 1), row(1, 0, 3, 2, -1)}},
		{manyFlat(rowsMost, diffMost), manyFlat(rowsMost, diffMost), 6, []impl.Row{row(0, 0, 0, 1, 1), row(1, 0, 0, 2, 1), row(2, 0, 0, 2, 1), row(3, 0, 0, 2, 1)}},
	}
	for _, c := range cases {
		if got, ok := impl.LoopFlow(c.ties, c.first, c.rounds); !ok || !slices.Equal(got, c.want) {
			t.Errorf("LoopFlow of %s and %s in %d rounds is %t, %s", some(c.ties), some(c.first), c.rounds, ok, some(got))
		}
	}
}

func TestLoopFlowOfMany(t *testing.T) {
	twice, again := 0, 0
	for _, l := range append(flowLoops(), growingFlowLoops()...) {
		for rounds := 1; rounds <= roundsMost; rounds++ {
			want := wantLoopFlow(l.ties, l.first, rounds)
			if got, ok := impl.LoopFlow(l.ties, l.first, rounds); !ok || !slices.Equal(got, want) {
				t.Fatalf("LoopFlow of %s and %s in %d rounds is %t, %s, not %s", some(l.ties), some(l.first), rounds, ok, some(got), some(want))
			}
			for _, r := range want {
				if r.Diff > 1 || r.Diff < -1 {
					twice++
				}
				if r.At.A > 0 && r.At.B > keys {
					again++
				}
			}
		}
	}
	if twice < 10 || again < 100 {
		t.Errorf("%d of two at once, %d at a later A of a round behind as many as keys", twice, again)
	}
}

func TestLoopOut(t *testing.T) {
	a := []impl.Row{row(1, 5, 2, 0, 1), row(1, 5, 2, 1, 2), row(1, 5, 2, 3, -3), row(0, 9, 0, 3, 1), row(0, 9, 7, 4, 1), row(0, 9, 7, 7, 5)}
	cases := []struct {
		a      []impl.Row
		rounds int
		want   []impl.Row
	}{
		{nil, 3, nil},
		{a, -1, nil},
		{a, math.MinInt, nil},
		{a, 0, []impl.Row{row(1, 5, 2, 0, 1)}},
		{a, 1, []impl.Row{row(1, 5, 2, 0, 3)}},
		{a, 2, []impl.Row{row(1, 5, 2, 0, 3)}},
		{a, 3, []impl.Row{row(0, 9, 0, 0, 1)}},
		{a, 4, []impl.Row{row(0, 9, 0, 0, 1), row(0, 9, 7, 0, 1)}},
		{a, 6, []impl.Row{row(0, 9, 0, 0, 1), row(0, 9, 7, 0, 1)}},
		{a, 7, []impl.Row{row(0, 9, 0, 0, 1), row(0, 9, 7, 0, 6)}},
		{a, 8, []impl.Row{row(0, 9, 0, 0, 1), row(0, 9, 7, 0, 6)}},
		{a, math.MaxInt, []impl.Row{row(0, 9, 0, 0, 1), row(0, 9, 7, 0, 6)}},
		{[]impl.Row{row(0, 9, 3, 6, 1)}, 5, nil},
		{[]impl.Row{row(0, 9, 3, 6, 1)}, 6, []impl.Row{row(0, 9, 3, 0, 1)}},
		{[]impl.Row{row(0, 9, 3, 0, 0)}, 6, nil},
		{[]impl.Row{row(0, 9, 3, 1, 1), row(0, 9, 3, 1, 1)}, 1, []impl.Row{row(0, 9, 3, 0, 2)}},
		{[]impl.Row{row(3, 99, 7, 1, 1), row(0, 0, 0, 1, -1)}, 1, []impl.Row{row(0, 0, 0, 0, -1), row(3, 99, 7, 0, 1)}},
		{manyFlat(rowsMost, -diffMost), 0, manyFlat(rowsMost, -diffMost)},
		{manyFlat(rowsMost, 1), -1, nil},
		// At the limit of a Diff, and beyond it: what is of a later round is not summed up.
		{[]impl.Row{row(1, 5, 2, 1, 50000), row(1, 5, 2, 2, 49999), row(2, 0, 0, 1, 1)}, 2, []impl.Row{row(1, 5, 2, 0, 99999), row(2, 0, 0, 0, 1)}},
		{[]impl.Row{row(1, 5, 2, 1, 50000), row(1, 5, 2, 2, 50000), row(2, 0, 0, 1, 1)}, 2, nil},
		{[]impl.Row{row(1, 5, 2, 1, 50000), row(1, 5, 2, 2, 50000), row(2, 0, 0, 1, 1)}, 1, []impl.Row{row(1, 5, 2, 0, 50000), row(2, 0, 0, 0, 1)}},
		{[]impl.Row{row(1, 5, 2, 1, 50000), row(1, 5, 3, 2, 50000), row(2, 0, 0, 1, 1)}, 2, []impl.Row{row(1, 5, 2, 0, 50000), row(1, 5, 3, 0, 50000), row(2, 0, 0, 0, 1)}},
		{[]impl.Row{row(1, 5, 2, 1, -50000), row(1, 5, 2, 2, -49999), row(2, 0, 0, 1, 1)}, 2, []impl.Row{row(1, 5, 2, 0, -99999), row(2, 0, 0, 0, 1)}},
		{[]impl.Row{row(1, 5, 2, 1, -50000), row(1, 5, 2, 2, -50000), row(2, 0, 0, 1, 1)}, 2, nil},
		{[]impl.Row{row(1, 5, 2, 1, 99999), row(1, 5, 2, 2, 99999), row(1, 5, 2, 3, -99999)}, 3, []impl.Row{row(1, 5, 2, 0, 99999)}},
		{[]impl.Row{row(1, 5, 2, 1, 99999), row(1, 5, 2, 2, 99999), row(1, 5, 2, 3, -99999)}, 2, nil},
	}
	for _, c := range cases {
		if got := impl.LoopOut(c.a, c.rounds); !slices.Equal(got, c.want) {
			t.Errorf("LoopOut of %s in %d rounds is %s", some(c.a), c.rounds, some(got))
		}
	}
}

func TestLoopOutOfMany(t *testing.T) {
	none := 0
	for _, a := range flowLists() {
		for rounds := -2; rounds <= side+1; rounds++ {
			want, ok := wantLoopOut(a, rounds)
			if got := impl.LoopOut(a, rounds); !slices.Equal(got, want) {
				t.Fatalf("LoopOut of %s in %d rounds is %s, not %s", some(a), rounds, some(got), some(want))
			}
			if !ok {
				none++
			}
		}
	}
	if none < 50 {
		t.Errorf("only %d are too much", none)
	}
}

func TestLoopsOfWrongItemsAreNothing(t *testing.T) {
	good := []impl.Item{item(0, 1, 2), item(1, 5, 1), item(3, 0, -4)}
	for _, bad := range badSets() {
		for _, other := range [][]impl.Item{nil, good, bad} {
			for place, list := range [][3][]impl.Item{{bad, good, other}, {good, bad, other}, {other, good, bad}, {bad, other, good}, {nil, other, bad}} {
				if got := impl.LoopStep(list[0], list[1], list[2]); len(got) != 0 {
					t.Errorf("LoopStep of %s, a wrong one, case %d, is %s", some(bad), place, some(got))
				}
			}
			for rounds := range roundsMost + 1 {
				if got := impl.LoopSet(bad, good, rounds); len(got) != 0 {
					t.Errorf("LoopSet of %s as ties in %d rounds is %s", some(bad), rounds, some(got))
				}
				if got := impl.LoopSet(other, bad, rounds); len(got) != 0 {
					t.Errorf("LoopSet of %s as first in %d rounds is %s", some(bad), rounds, some(got))
				}
			}
		}
	}
}

// A loop of too many rounds might not end: one too many is asked first.
func TestLoopsInSuchRoundsAsThereAreNone(t *testing.T) {
	for _, rounds := range append([]int{0}, noRounds...) {
		for _, l := range sampleLoops() {
			if got := impl.LoopSet(l.ties, l.first, rounds); len(got) != 0 {
				t.Fatalf("LoopSet of %s and %s in %d rounds is %s", some(l.ties), some(l.first), rounds, some(got))
			}
		}
		for _, l := range sampleFlowLoops() {
			if got, ok := impl.LoopFlow(l.ties, l.first, rounds); ok || len(got) != 0 {
				t.Fatalf("LoopFlow of %s and %s in %d rounds is %t, %s", some(l.ties), some(l.first), rounds, ok, some(got))
			}
		}
	}
}

func TestLoopFlowOfWrongBatchesIsNothing(t *testing.T) {
	good := []impl.Row{row(0, 1, 0, 0, 2), row(1, 5, 3, 0, 1), row(3, 0, 2, 0, -4)}
	for _, bad := range slices.Concat(badFlatBatches(), badBatches()) {
		for _, other := range [][]impl.Row{nil, good, bad} {
			for _, rounds := range []int{1, 2, roundsMost} {
				if got, ok := impl.LoopFlow(bad, other, rounds); ok || len(got) != 0 {
					t.Errorf("LoopFlow of %s as ties in %d rounds is %t, %s", some(bad), rounds, ok, some(got))
				}
				if got, ok := impl.LoopFlow(other, bad, rounds); ok || len(got) != 0 {
					t.Errorf("LoopFlow of %s as first in %d rounds is %t, %s", some(bad), rounds, ok, some(got))
				}
			}
		}
	}
}

func TestLoopOutOfWrongRowsIsNothing(t *testing.T) {
	for _, bad := range badLists() {
		for rounds := -1; rounds <= side; rounds++ {
			if got := impl.LoopOut(bad, rounds); len(got) != 0 {
				t.Errorf("LoopOut of %s in %d rounds is %s", some(bad), rounds, some(got))
			}
		}
	}
}
