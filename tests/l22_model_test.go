package tests

import (
	"math"
	"math/big"
	"slices"

	"loop.example/tideline/impl"
)

// The model of loops has a number without a limit for each key that is led to, goes all rounds one by one, and lets what is come to be there at each time alone, as the model of changes does.

const roundsMost = 6

// noRounds are such numbers of rounds as there are none.
var noRounds = []int{-1, roundsMost + 1, roundsMost + 2, -roundsMost, 100, math.MinInt, math.MaxInt, 1<<32 + 1, -(1 << 32) + 1}

// wantLoopStep is what is come to in one round more. Where there is more, or less, of a key than can be, SetOnce has nothing to tell.
func wantLoopStep(ties []impl.Item, first []impl.Item, now []impl.Item) []impl.Item {
	var led [keys]big.Int
	for _, x := range first {
		led[x.Key].Add(&led[x.Key], big.NewInt(int64(x.Count)))
	}
	for _, x := range now {
		for _, tie := range ties {
			if tie.Key == x.Key {
				var n big.Int
				n.Mul(big.NewInt(int64(x.Count)), big.NewInt(int64(tie.Count)))
				led[tie.Val&3].Add(&led[tie.Val&3], &n)
			}
		}
	}
	var want []impl.Item
	for key := range keys {
		if led[key].CmpAbs(big.NewInt(countMost)) > 0 {
			return nil
		}
		if led[key].Sign() > 0 {
			want = append(want, item(key, 0, 1))
		}
	}
	return want
}

func wantLoopSet(ties []impl.Item, first []impl.Item, rounds int) []impl.Item {
	var now []impl.Item
	for range rounds {
		now = wantLoopStep(ties, first, now)
	}
	return now
}

// wantLoopFlow is how what is come to changes: above the last round there is what there is in that, below the first one nothing.
func wantLoopFlow(ties []impl.Row, first []impl.Row, rounds int) []impl.Row {
	var made []impl.Row
	for _, s := range allTimes() {
		start := at(s.A, 0)
		for _, x := range wantLoopSet(wantItems(ties, start), wantItems(first, start), min(s.B, rounds)) {
			made = append(made, onlyAt(x, s)...)
		}
	}
	want, _ := wantBatch(made)
	return want
}

// wantLoopOut is what left, and whether that is ok.
func wantLoopOut(a []impl.Row, rounds int) ([]impl.Row, bool) {
	left := slices.DeleteFunc(slices.Clone(a), func(r impl.Row) bool { return r.At.B > rounds })
	return wantBatch(flat(left))
}

// flat are rows with the B 0.
func flat(list []impl.Row) []impl.Row {
	level := slices.Clone(list)
	for i := range level {
		level[i].At.B = 0
	}
	return level
}

// flatBatch is a batch of the same rows with the B 0, and whether there is one.
func flatBatch(list []impl.Row) ([]impl.Row, bool) {
	return wantBatch(flat(list))
}

// manyFlat are so many rows with the B 0, in order, no two of one key, value and A, from the first there is on.
func manyFlat(n int, diff int) []impl.Row {
	var many []impl.Row
	for place := range n {
		many = append(many, row(place/(vals*side), place/side%vals, place%side, 0, diff))
	}
	return many
}

// keysOf are keys as items of the Val 0, one of each, in order.
func keysOf(which ...int) []impl.Item {
	var list []impl.Item
	for _, key := range which {
		list = append(list, item(key, 0, 1))
	}
	return list
}

// loop is ties, and what is first.
type loop[T any] struct{ ties, first []T }

// sampleLoops are ok items with the edges of the document: no ties, nothing first, ties of a key to itself, round all keys, and to one key from several values, Counts of less than nothing, such as cancel one another, such as go round for ever, and at a limit.
func sampleLoops() []loop[impl.Item] {
	chain := []impl.Item{item(0, 1, 1), item(1, 2, 1), item(2, 3, 1)}
	circle := append(slices.Clone(chain), item(3, 0, 1))
	one := keysOf(0)
	return []loop[impl.Item]{
		{nil, nil},
		{[]impl.Item{}, []impl.Item{}},
		{nil, one},
		{chain, nil},
		{chain, one},
		{chain, []impl.Item{item(0, 7, 1)}},
		{chain, keysOf(2)},
		{chain, keysOf(3)},
		{chain, keysOf(0, 2)},
		{circle, one},
		{circle, keysOf(3)},
		{circle, keysOf(0, 1, 2, 3)},
		{[]impl.Item{item(0, 0, 1), item(2, 2, 1)}, one},
		{[]impl.Item{item(2, 2, 1)}, one},
		{[]impl.Item{item(0, 97, 1), item(1, 50, 1), item(2, 99, 1), item(3, 96, 1)}, one},
		{[]impl.Item{item(0, 1, 1), item(0, 5, -1)}, one},
		{[]impl.Item{item(0, 1, 2), item(0, 5, -1)}, one},
		{[]impl.Item{item(0, 1, 1), item(0, 5, -2)}, one},
		{[]impl.Item{item(0, 1, 1), item(1, 0, -1)}, one},
		{[]impl.Item{item(0, 0, -1)}, one},
		{[]impl.Item{item(0, 0, -1), item(0, 1, 1)}, one},
		{[]impl.Item{item(0, 0, -1)}, []impl.Item{item(0, 3, 2)}},
		{[]impl.Item{item(0, 0, -1), item(0, 1, 1), item(1, 0, 1)}, one},
		{[]impl.Item{item(0, 1, 1), item(0, 2, -1), item(1, 2, 1), item(2, 3, 1)}, one},
		{[]impl.Item{item(0, 1, 1), item(1, 2, 1), item(2, 1, -1), item(2, 3, 1), item(3, 2, -1)}, one},
		{chain, []impl.Item{item(0, 0, 1), item(2, 0, -1)}},
		{chain, []impl.Item{item(0, 0, 1), item(2, 0, -2)}},
		{chain, []impl.Item{item(0, 0, -1)}},
		{chain, []impl.Item{item(0, 0, -1), item(0, 1, 1)}},
		{chain, []impl.Item{item(0, 0, -1), item(0, 99, 2)}},
		{wantLessItems(chain), one},
		{wantLessItems(circle), wantLessItems(one)},
		{chain, []impl.Item{item(0, 4, countMost), item(3, 99, -countMost)}},
		{chain, []impl.Item{item(0, 4, countMost), item(0, 5, 1)}},
		{chain, []impl.Item{item(0, 4, countMost), item(0, 5, 1), item(0, 6, -1)}},
		{[]impl.Item{item(0, 0, 1)}, []impl.Item{item(0, 0, countMost)}},
		{[]impl.Item{item(0, 0, 1)}, []impl.Item{item(0, 0, countMost-1)}},
		{[]impl.Item{item(0, 1, countMost), item(1, 2, countMost)}, one},
		{[]impl.Item{item(0, 1, countMost)}, keysOf(0, 1)},
		{allItems(1), one},
		{allItems(-1), keysOf(0, 1, 2, 3)},
		{allItems(1), allItems(1)},
		{allItems(countMost), one},
		{nil, allItems(countMost)},
	}
}

// someLoops are such, and many more: few keys and values, so that ties meet, or all, of more and of less than nothing.
func someLoops() []loop[impl.Item] {
	loops := sampleLoops()
	s := steps(22)
	for _, k := range []kind{{2, 2, 0, 1}, {3, 3, 0, 1}, {4, 4, 0, 1}, {4, 4, 0, 3}, {4, 12, 0, 2}, {4, 100, 0, 99}, {4, 100, 0, countMost / 2}} {
		for _, size := range []int{1, 2, 3, 4, 5, 6, 8, 12, 40} {
			for range 8 {
				first := s.items(kind{k.keys, 2, 0, k.diff}, 1+s.below(4))
				loops = append(loops, loop[impl.Item]{s.items(k, size), first})
			}
		}
	}
	return loops
}

// tiesOf are ties of so many keys, one from a key to another just where a number has a bit.
func tiesOf(which int, wide int) []impl.Item {
	var ties []impl.Item
	for from := range wide {
		for to := range wide {
			if which>>(from*wide+to)&1 == 1 {
				ties = append(ties, item(from, to, 1))
			}
		}
	}
	return ties
}

// bitsOf are the keys whose bits a number has.
func bitsOf(which int) []int {
	var list []int
	for key := range keys {
		if which>>key&1 == 1 {
			list = append(list, key)
		}
	}
	return list
}

// growingLoops are loops of which nothing is taken away: all ties of three keys, and some of all, with all that can be first, and some of the others without what is less than none.
func growingLoops() []loop[impl.Item] {
	var loops []loop[impl.Item]
	for which := range 1 << 9 {
		for first := which % 2; first < 8; first += 2 {
			loops = append(loops, loop[impl.Item]{tiesOf(which, 3), keysOf(bitsOf(first)...)})
		}
	}
	for which := 0; which < 1<<16; which += 61 {
		loops = append(loops, loop[impl.Item]{tiesOf(which, 4), keysOf(bitsOf(which / 61 % 16)...)})
	}
	for _, l := range someLoops() {
		more := loop[impl.Item]{aboveNone(l.ties), aboveNone(l.first)}
		if !tooMuch(more) {
			loops = append(loops, more)
		}
	}
	return loops
}

// aboveNone are items of which there is more than none.
func aboveNone(list []impl.Item) []impl.Item {
	return slices.DeleteFunc(slices.Clone(list), func(x impl.Item) bool { return x.Count <= 0 })
}

// tooMuch tells whether there may be more of a key than can be in some round: all there are of it together.
func tooMuch(l loop[impl.Item]) bool {
	var led [keys]int
	for _, x := range l.first {
		led[x.Key] += max(x.Count, -x.Count)
	}
	for _, tie := range l.ties {
		led[tie.Val&3] += max(tie.Count, -tie.Count)
	}
	return slices.Max(led[:]) > countMost
}

// sampleFlowLoops are batches with the edges of the document: what comes, goes, and comes again, of ties and of what is first, at one A and at several, at the first one and the last one, ahead of one another and behind, ways that become shorter, and longer.
func sampleFlowLoops() []loop[impl.Row] {
	one := []impl.Row{row(0, 0, 0, 0, 1)}
	chain := []impl.Row{row(0, 1, 0, 0, 1), row(1, 2, 0, 0, 1), row(2, 3, 0, 0, 1)}
	circle := append(slices.Clone(chain), row(3, 0, 0, 0, 1))
	return []loop[impl.Row]{
		{nil, nil},
		{[]impl.Row{}, []impl.Row{}},
		{nil, one},
		{chain, nil},
		{chain, one},
		{circle, one},
		{chain, []impl.Row{row(0, 7, 3, 0, 1)}},
		{chain, []impl.Row{row(0, 7, 7, 0, 1)}},
		{chain, []impl.Row{row(0, 0, 1, 0, 1), row(0, 0, 4, 0, -1)}},
		{chain, []impl.Row{row(0, 0, 1, 0, 1), row(0, 0, 4, 0, -1), row(0, 0, 6, 0, 1)}},
		{chain, []impl.Row{row(0, 0, 1, 0, 1), row(0, 0, 4, 0, -2), row(0, 0, 6, 0, 2)}},
		{chain, []impl.Row{row(0, 0, 0, 0, 1), row(0, 0, 4, 0, -1), row(0, 1, 2, 0, 1)}},
		{circle, []impl.Row{row(0, 0, 0, 0, 1), row(0, 0, 3, 0, -1)}},
		{circle, []impl.Row{row(0, 0, 0, 0, 1), row(0, 0, 3, 0, -1), row(2, 9, 3, 0, 1)}},
		{[]impl.Row{row(0, 1, 0, 0, 1), row(0, 1, 2, 0, -1)}, one},
		{[]impl.Row{row(0, 1, 0, 0, 1), row(1, 2, 0, 0, 1), row(1, 2, 2, 0, -1), row(2, 3, 0, 0, 1)}, one},
		{[]impl.Row{row(0, 1, 0, 0, 1), row(1, 2, 0, 0, 1), row(1, 2, 2, 0, -1), row(1, 2, 5, 0, 1), row(2, 3, 0, 0, 1)}, one},
		{[]impl.Row{row(0, 1, 0, 0, 1), row(0, 1, 2, 0, -2), row(1, 2, 0, 0, 1)}, one},
		{[]impl.Row{row(0, 1, 0, 0, 2), row(0, 1, 2, 0, -1), row(1, 2, 0, 0, 1)}, one},
		{[]impl.Row{row(0, 1, 0, 0, 1), row(0, 1, 2, 0, -1), row(0, 5, 1, 0, 1), row(1, 2, 0, 0, 1)}, one},
		{[]impl.Row{row(0, 1, 0, 0, 1), row(0, 5, 1, 0, -1), row(1, 2, 0, 0, 1)}, one},
		{[]impl.Row{row(0, 1, 0, 0, 1), row(0, 2, 1, 0, 1), row(1, 2, 0, 0, 1)}, one},
		{[]impl.Row{row(0, 1, 0, 0, 1), row(0, 3, 1, 0, 1), row(0, 3, 6, 0, -1), row(1, 2, 0, 0, 1), row(2, 3, 0, 0, 1)}, one},
		{[]impl.Row{row(0, 1, 3, 0, 1), row(1, 2, 2, 0, 1), row(2, 3, 1, 0, 1)}, one},
		{[]impl.Row{row(0, 1, 1, 0, 1), row(1, 0, 2, 0, -1)}, one},
		{[]impl.Row{row(0, 0, 0, 0, -1), row(0, 0, 3, 0, 1), row(0, 1, 0, 0, 1)}, one},
		{[]impl.Row{row(0, 0, 0, 0, -1), row(0, 1, 0, 0, 1), row(0, 1, 1, 0, -1), row(0, 2, 1, 0, 1), row(2, 1, 0, 0, 1)}, one},
		{[]impl.Row{row(0, 1, 7, 0, 1)}, []impl.Row{row(0, 0, 7, 0, 1)}},
		{[]impl.Row{row(0, 1, 7, 0, 1), row(1, 2, 0, 0, 1)}, []impl.Row{row(0, 0, 0, 0, 1), row(1, 0, 6, 0, 1), row(1, 0, 7, 0, -1)}},
		{[]impl.Row{row(0, 1, 0, 0, diffMost), row(0, 1, 1, 0, diffMost), row(0, 1, 2, 0, -diffMost), row(0, 1, 3, 0, -diffMost)}, one},
		{[]impl.Row{row(0, 1, 0, 0, diffMost), row(0, 5, 0, 0, diffMost), row(0, 9, 0, 0, -diffMost), row(0, 13, 4, 0, -diffMost)}, []impl.Row{row(0, 1, 0, 0, diffMost), row(0, 2, 0, 0, diffMost)}},
		{manyFlat(rowsMost, 1), one},
		{manyFlat(rowsMost, diffMost), manyFlat(rowsMost, diffMost)},
		{manyFlat(rowsMost, -1), manyFlat(rowsMost, 1)},
	}
}

// flowLoops are such, and many more, with rows of few keys and values, so that ties meet, or of all, at some A, or at all.
func flowLoops() []loop[impl.Row] {
	loops := sampleFlowLoops()
	s := steps(2222)
	for _, k := range []kind{{2, 2, 2, 1}, {3, 3, 3, 1}, {4, 4, 2, 1}, {4, 4, 8, 1}, {4, 4, 8, 3}, {4, 12, 8, 2}, {4, 100, 8, 99999}} {
		for _, size := range []int{1, 2, 4, 6, 9, 14, 25, 60} {
			for turn := range 5 {
				ties, _ := flatBatch(s.rows(k, size))
				first, _ := flatBatch(s.rows(kind{k.keys, 2, k.times, k.diff}, 1+turn*2))
				if turn%2 == 1 {
					// One that stays, so that more is come to.
					first, _ = wantBatch(first, []impl.Row{row(turn%k.keys, 3, 0, 0, 1)})
				}
				loops = append(loops, loop[impl.Row]{ties, first})
			}
		}
	}
	return loops
}

// growingFlowLoops are loops of which at no A there is less than none of anything.
func growingFlowLoops() []loop[impl.Row] {
	var loops []loop[impl.Row]
	for _, l := range flowLoops() {
		ties, okTies := wantBatch(onlyMore(l.ties))
		first, okFirst := wantBatch(onlyMore(l.first))
		if okTies && okFirst {
			loops = append(loops, loop[impl.Row]{ties, first})
		}
	}
	// What was there more often may go again, as long as it is not less than none.
	return append(loops,
		loop[impl.Row]{[]impl.Row{row(0, 1, 0, 0, 1), row(0, 1, 3, 0, -1), row(1, 2, 0, 0, 3), row(1, 2, 2, 0, -2)}, []impl.Row{row(0, 0, 0, 0, 1)}},
		loop[impl.Row]{[]impl.Row{row(0, 1, 0, 0, 1), row(1, 2, 0, 0, 1), row(2, 3, 0, 0, 1)}, []impl.Row{row(0, 0, 0, 0, 2), row(0, 0, 5, 0, -1)}})
}

// onlyMore are rows each of which says that there is more.
func onlyMore(list []impl.Row) []impl.Row {
	more := slices.Clone(list)
	for i, r := range more {
		more[i].Diff = max(r.Diff, -r.Diff)
	}
	return more
}

// badFlatBatches are rows with the B 0 that are no batch, and batches in which one B is not 0.
func badFlatBatches() [][]impl.Row {
	bad := [][]impl.Row{
		{row(1, 5, 3, 0, 0)},
		{row(1, 5, 3, 0, 1), row(1, 5, 3, 0, 1)},
		{row(1, 5, 3, 0, 1), row(1, 5, 3, 0, -1)},
		{row(1, 5, 3, 0, 1), row(1, 5, 2, 0, 1)},
		{row(1, 5, 3, 0, 1), row(1, 4, 3, 0, 1)},
		{row(1, 5, 3, 0, 1), row(0, 5, 3, 0, 1)},
		manyFlat(rowsMost+1, 1),
		manyFlat(vals*keys*side, 1),
		manyRows(2, 1),
		append(manyFlat(rowsMost-1, 1), row(3, 99, 7, 7, 1)),
		append([]impl.Row{row(0, 0, 0, 1, 1)}, manyFlat(rowsMost, 1)[side:]...),
	}
	for _, r := range badRows() {
		if within(r.At.B, side) {
			r.At.B = 0
		}
		bad = append(bad, []impl.Row{r}, []impl.Row{row(0, 0, 0, 0, 1), r, row(3, 99, 7, 0, 1)})
	}
	for b := 1; b < side; b++ {
		r := row(1, 5, 3, b, -2)
		bad = append(bad, []impl.Row{r}, []impl.Row{r, row(2, 0, 0, 0, 1)}, []impl.Row{row(0, 0, 0, 0, 1), r}, []impl.Row{row(0, 0, 0, 0, 1), r, row(2, 0, 0, 0, 1)})
	}
	return bad
}
