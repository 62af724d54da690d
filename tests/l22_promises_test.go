package tests

import (
	"slices"
	"testing"

	"loop.example/tideline/impl"
)

// firstKeys are the keys of which there is something first: Counts of all values together.
func firstKeys(first []impl.Item) []impl.Item {
	return wantLoopStep(nil, first, nil)
}

func TestPromise71WhatIsComeToIsThereOnceWithTheVal0(t *testing.T) {
	sets := itemLists()
	told := 0
	for i, ties := range sets {
		for j, first := range partners(sets, i) {
			now := sets[(i*13+j*29+1)%len(sets)]
			lists := [][]impl.Item{impl.LoopStep(ties, first, now), impl.LoopStep(ties, first, keysOf(0, 2))}
			for rounds := range roundsMost + 1 {
				lists = append(lists, impl.LoopSet(ties, first, rounds))
			}
			for _, got := range lists {
				for k, x := range got {
					told++
					if x.Val != 0 || x.Count != 1 || !within(x.Key, keys) || k > 0 && got[k-1].Key >= x.Key {
						t.Fatalf("of %s, %s and %s %v is come to", some(ties), some(first), some(now), got)
					}
				}
			}
		}
	}
	if told < 3000 {
		t.Errorf("only %d are come to", told)
	}
}

func TestPromise71WithoutTiesOrWithNothingComeToItIsWhatWasFirst(t *testing.T) {
	sets := itemLists()
	told := 0
	for i, first := range sets {
		want := firstKeys(first)
		told += len(want)
		for _, other := range partners(sets, i) {
			if got := impl.LoopStep(nil, first, other); !slices.Equal(got, want) {
				t.Fatalf("without ties, LoopStep of %s and %s is %v, not %v", some(first), some(other), got, want)
			}
			if got := impl.LoopStep(other, first, nil); !slices.Equal(got, want) {
				t.Fatalf("with nothing come to, LoopStep of %s and %s is %v, not %v", some(other), some(first), got, want)
			}
			if got := impl.LoopSet(other, first, 1); !slices.Equal(got, want) {
				t.Fatalf("LoopSet of %s and %s in one round is %v, not %v", some(other), some(first), got, want)
			}
		}
	}
	if told < 150 {
		t.Errorf("only %d are first", told)
	}
}

func TestPromise72ARoundMoreIsLoopStep(t *testing.T) {
	for _, l := range append(someLoops(), growingLoops()...) {
		for rounds := range roundsMost {
			now, more := impl.LoopSet(l.ties, l.first, rounds), impl.LoopSet(l.ties, l.first, rounds+1)
			if step := impl.LoopStep(l.ties, l.first, now); !slices.Equal(step, more) {
				t.Fatalf("%s and %s: behind %v, of %d rounds, comes %v, LoopStep is %v", some(l.ties), some(l.first), now, rounds, more, step)
			}
		}
	}
}

// Counts that are too much are nothing, which takes away what was come to: they are not among the loops that grow.
func TestPromise72IfNothingIsTakenAwayWhatIsComeToStays(t *testing.T) {
	grown := 0
	for _, l := range growingLoops() {
		for rounds := range roundsMost {
			now, more := impl.LoopSet(l.ties, l.first, rounds), impl.LoopSet(l.ties, l.first, rounds+1)
			for _, x := range now {
				if !slices.Contains(more, x) {
					t.Fatalf("%s and %s: %v in %d rounds, and %v in one more", some(l.ties), some(l.first), now, rounds, more)
				}
			}
			if rounds > 0 && len(more) > len(now) {
				grown++
			}
		}
	}
	if grown < 1000 {
		t.Errorf("only %d rounds come to more", grown)
	}
	// And where something is, it need not stay.
	if now, more := impl.LoopSet([]impl.Item{item(0, 0, -1)}, keysOf(0), 1), impl.LoopSet([]impl.Item{item(0, 0, -1)}, keysOf(0), 2); len(now) != 1 || len(more) != 0 {
		t.Errorf("%v, then %v", now, more)
	}
}

func TestPromise72OfChangesThatTakeNothingAway(t *testing.T) {
	for _, l := range growingFlowLoops() {
		made, _ := impl.LoopFlow(l.ties, l.first, roundsMost)
		for a := range side {
			for b := 1; b < roundsMost; b++ {
				now, more := impl.BatchAt(made, at(a, b)), impl.BatchAt(made, at(a, b+1))
				for _, x := range now {
					if !slices.Contains(more, x) {
						t.Fatalf("%s and %s: %v at %d in %d rounds, and %v in one more", some(l.ties), some(l.first), now, a, b, more)
					}
				}
			}
		}
	}
}

func TestPromise73WhatARoundDoesNotChangeNoFurtherOneDoes(t *testing.T) {
	settled, unsettled := 0, 0
	for _, l := range append(someLoops(), growingLoops()...) {
		same := false
		for rounds := range roundsMost {
			now, more := impl.LoopSet(l.ties, l.first, rounds), impl.LoopSet(l.ties, l.first, rounds+1)
			if same && !slices.Equal(now, more) {
				t.Fatalf("%s and %s: %v in %d rounds, as ahead, and %v in one more", some(l.ties), some(l.first), now, rounds, more)
			}
			if !same && rounds > 1 && slices.Equal(now, more) {
				settled++
			}
			same = slices.Equal(now, more)
		}
		if !same {
			unsettled++
		}
	}
	if settled < 1000 || unsettled < 30 {
		t.Errorf("%d come to the same behind the second round, %d never", settled, unsettled)
	}
}

// At each A for itself: at another one a round may change something again.
func TestPromise73OfChanges(t *testing.T) {
	again := 0
	for _, l := range flowLoops() {
		made, _ := impl.LoopFlow(l.ties, l.first, roundsMost)
		last := 0
		for a := range side {
			same := false
			for b := 1; b < roundsMost; b++ {
				unchanged := slices.Equal(impl.BatchAt(made, at(a, b)), impl.BatchAt(made, at(a, b+1)))
				if same && !unchanged {
					t.Fatalf("%s and %s make %s: at %d the round %d changes something again", some(l.ties), some(l.first), some(made), a, b+1)
				}
				same = unchanged
				if !unchanged && b+1 > last {
					last = b + 1
					if a > 0 {
						again++
					}
				}
			}
		}
	}
	if again < 50 {
		t.Errorf("only %d rounds change something at a later A alone", again)
	}
}

func TestPromise74LoopFlowSumsUpToLoopSet(t *testing.T) {
	told := 0
	for _, l := range append(flowLoops(), growingFlowLoops()...) {
		for rounds := 1; rounds <= roundsMost; rounds++ {
			made, ok := impl.LoopFlow(l.ties, l.first, rounds)
			if !ok {
				t.Fatalf("LoopFlow of %s and %s in %d rounds is not ok", some(l.ties), some(l.first), rounds)
			}
			told += len(made)
			for a := range side {
				ties, first := impl.BatchAt(l.ties, at(a, 0)), impl.BatchAt(l.first, at(a, 0))
				for b := 1; b <= rounds; b++ {
					got := impl.BatchAt(made, at(a, b))
					if want := impl.LoopSet(ties, first, b); !slices.Equal(got, want) || !slices.Equal(got, wantLoopSet(wantItems(l.ties, at(a, 0)), wantItems(l.first, at(a, 0)), b)) {
						t.Fatalf("LoopFlow of %s and %s in %d rounds says %v at %d and %d, not %v", some(l.ties), some(l.first), rounds, got, a, b, want)
					}
				}
			}
		}
	}
	if told < 5000 {
		t.Errorf("only %d changes", told)
	}
}

// All that can be of a tie of each two of three keys, from 0 up, that comes at one A, goes at another one, or stays away.
func TestPromise74OfTiesThatComeAndGo(t *testing.T) {
	pairs := [][2]int{{0, 1}, {0, 2}, {1, 0}, {1, 2}, {2, 0}, {2, 1}}
	one := []impl.Row{row(0, 0, 0, 0, 1)}
	for which := range 729 {
		var ties []impl.Row
		number := which
		for _, p := range pairs {
			switch number % 3 {
			case 1:
				ties = append(ties, row(p[0], p[1], 0, 0, 1), row(p[0], p[1], 2, 0, -1))
			case 2:
				ties = append(ties, row(p[0], p[1], 1, 0, 1))
			}
			number /= 3
		}
		made, ok := impl.LoopFlow(ties, one, keys)
		if !ok {
			t.Fatalf("LoopFlow of %v is not ok", ties)
		}
		for a := range 4 {
			there := wantItems(ties, at(a, 0))
			for b := range keys + 1 {
				if got, want := impl.BatchAt(made, at(a, b)), wantLoopSet(there, keysOf(0), b); !slices.Equal(got, want) {
					t.Fatalf("LoopFlow of %v says %v at %d and %d, not %v", ties, got, a, b, want)
				}
			}
		}
	}
}

func TestPromise75LoopOutSaysWhatThereIsInTheLastRound(t *testing.T) {
	told := 0
	for _, l := range append(flowLoops(), growingFlowLoops()...) {
		for rounds := 1; rounds <= roundsMost; rounds++ {
			made, _ := impl.LoopFlow(l.ties, l.first, rounds)
			out := impl.LoopOut(made, rounds)
			told += len(out)
			for _, s := range allTimes() {
				got := impl.BatchAt(out, s)
				want := impl.LoopSet(impl.BatchAt(l.ties, at(s.A, 0)), impl.BatchAt(l.first, at(s.A, 0)), rounds)
				if !slices.Equal(got, want) || !slices.Equal(got, impl.BatchAt(made, at(s.A, rounds))) {
					t.Fatalf("LoopOut of %s in %d rounds says %v at %s, not %v", some(made), rounds, got, tell(s), want)
				}
			}
		}
	}
	if told < 3000 {
		t.Errorf("only %d changes left", told)
	}
}

// Of rows that LoopFlow did not make, and up to a round that is not their last one.
func TestPromise75OfAllRows(t *testing.T) {
	told := 0
	for _, a := range flowLists() {
		for rounds := range side {
			if _, ok := wantLoopOut(a, rounds); !ok {
				continue
			}
			told++
			out := impl.LoopOut(a, rounds)
			for _, s := range allTimes() {
				if got, want := impl.BatchAt(out, s), impl.BatchAt(a, at(s.A, rounds)); !slices.Equal(got, want) {
					t.Fatalf("LoopOut of %s in %d rounds says %s at %s, not %s", some(a), rounds, some(got), tell(s), some(want))
				}
			}
		}
	}
	if told < 2000 {
		t.Errorf("only %d are not too much", told)
	}
}

func TestPromise76WithARoundMoreTheFirstOnesAreAsTheyWere(t *testing.T) {
	more := 0
	for _, l := range append(flowLoops(), growingFlowLoops()...) {
		before, _ := impl.LoopFlow(l.ties, l.first, 1)
		for rounds := 2; rounds <= roundsMost; rounds++ {
			after, _ := impl.LoopFlow(l.ties, l.first, rounds)
			first := slices.DeleteFunc(slices.Clone(after), func(r impl.Row) bool { return r.At.B == rounds })
			if !slices.Equal(first, before) {
				t.Fatalf("%s and %s make %s, and with the round %d %s", some(l.ties), some(l.first), some(before), rounds, some(after))
			}
			if out := impl.LoopOut(after, rounds-1); !slices.Equal(out, impl.LoopOut(before, rounds-1)) {
				t.Fatalf("%s and %s: with the round %d another %v left", some(l.ties), some(l.first), rounds, out)
			}
			more += len(after) - len(first)
			before = after
		}
	}
	if more < 1000 {
		t.Errorf("only %d changes in a round more", more)
	}
}

func TestPromise77WhereNothingIsFirstNothingIsComeTo(t *testing.T) {
	for _, l := range someLoops() {
		// What is less than none is nothing that is first, either.
		for _, first := range [][]impl.Item{nil, {}, wantLessItems(aboveNone(l.first))} {
			if tooMuch(loop[impl.Item]{l.ties, first}) {
				continue
			}
			for rounds := range roundsMost + 1 {
				if got := impl.LoopSet(l.ties, first, rounds); len(got) != 0 {
					t.Fatalf("of %s and %s %v is come to", some(l.ties), some(first), got)
				}
			}
		}
	}
	asked := 0
	for _, l := range flowLoops() {
		for rounds := 1; rounds <= roundsMost; rounds++ {
			if got, ok := impl.LoopFlow(l.ties, nil, rounds); !ok || len(got) != 0 {
				t.Fatalf("LoopFlow of %s and nothing in %d rounds is %t, %s", some(l.ties), rounds, ok, some(got))
			}
			made, _ := impl.LoopFlow(l.ties, l.first, rounds)
			for _, s := range allTimes() {
				if len(impl.BatchAt(l.first, at(s.A, 0))) > 0 {
					continue
				}
				asked++
				if got := impl.BatchAt(made, s); len(got) != 0 {
					t.Fatalf("LoopFlow of %s and %s says %v at %s", some(l.ties), some(l.first), got, tell(s))
				}
			}
		}
	}
	if asked < 5000 {
		t.Errorf("only at %d times nothing is first", asked)
	}
}

func TestPromise77WithoutTiesOneRoundIsEnough(t *testing.T) {
	for _, first := range itemLists() {
		once := impl.LoopSet(nil, first, 1)
		for rounds := 1; rounds <= roundsMost; rounds++ {
			if got := impl.LoopSet(nil, first, rounds); !slices.Equal(got, once) || !slices.Equal(got, firstKeys(first)) {
				t.Fatalf("of %s %v is come to in %d rounds, and %v in one", some(first), got, rounds, once)
			}
		}
	}
	asked := 0
	for _, l := range flowLoops() {
		once, ok := impl.LoopFlow(nil, l.first, 1)
		if !ok {
			t.Fatalf("LoopFlow of nothing and %s is not ok", some(l.first))
		}
		for rounds := 1; rounds <= roundsMost; rounds++ {
			if got, ok := impl.LoopFlow(nil, l.first, rounds); !ok || !slices.Equal(got, once) {
				t.Fatalf("LoopFlow of nothing and %s in %d rounds is %t, %s, and %s in one", some(l.first), rounds, ok, some(got), some(once))
			}
		}
		made, _ := impl.LoopFlow(l.ties, l.first, roundsMost)
		for a := range side {
			if len(impl.BatchAt(l.ties, at(a, 0))) > 0 {
				continue
			}
			asked++
			for b := 1; b < side; b++ {
				if got, want := impl.BatchAt(made, at(a, b)), impl.BatchAt(made, at(a, 1)); !slices.Equal(got, want) {
					t.Fatalf("LoopFlow of %s and %s says %v at %d and %d, and %v in the first round", some(l.ties), some(l.first), got, a, b, want)
				}
			}
		}
	}
	if asked < 300 {
		t.Errorf("only at %d times there are no ties", asked)
	}
}

func TestPromise78ChangesAreOfRoundsFrom1OnUpToTheLastWithTheVal0(t *testing.T) {
	var seen [roundsMost + 1]int
	for _, l := range append(flowLoops(), growingFlowLoops()...) {
		for rounds := 1; rounds <= roundsMost; rounds++ {
			made, _ := impl.LoopFlow(l.ties, l.first, rounds)
			for _, r := range made {
				if r.Val != 0 || r.At.B < 1 || r.At.B > rounds {
					t.Fatalf("LoopFlow of %s and %s in %d rounds has %v", some(l.ties), some(l.first), rounds, r)
				}
				if r.At.B == rounds {
					seen[rounds]++
				}
			}
			if got := impl.BatchAt(made, at(7, 0)); len(got) != 0 {
				t.Fatalf("LoopFlow of %s and %s in %d rounds says %v of no round", some(l.ties), some(l.first), rounds, got)
			}
		}
	}
	for rounds := 1; rounds <= roundsMost; rounds++ {
		if seen[rounds] < 50 {
			t.Errorf("only %d changes in the last of %d rounds", seen[rounds], rounds)
		}
	}
}

func TestPromise79IfNothingIsTakenAwayAsManyRoundsAsKeysAreEnough(t *testing.T) {
	all := 0
	for _, l := range growingLoops() {
		enough := impl.LoopSet(l.ties, l.first, impl.RowKeys)
		for rounds := impl.RowKeys; rounds <= roundsMost; rounds++ {
			if got := impl.LoopSet(l.ties, l.first, rounds); !slices.Equal(got, enough) {
				t.Fatalf("of %s and %s %v is come to in %d rounds, and %v in as many as keys", some(l.ties), some(l.first), got, rounds, enough)
			}
		}
		if !slices.Equal(impl.LoopSet(l.ties, l.first, impl.RowKeys-1), enough) {
			all++
		}
	}
	if all < 5 {
		t.Errorf("only %d come to something in the last of as many rounds as keys", all)
	}
}

// All ties that can be of all keys, from one key on: what is come to is what ways of so many ties lead to.
func TestPromise79OfAllTies(t *testing.T) {
	for which := range 1 << 16 {
		ties, from := tiesOf(which, keys), which%7%keys
		reached := 0
		for rounds := range roundsMost + 1 {
			if got := impl.LoopSet(ties, keysOf(from), rounds); !slices.Equal(got, keysOf(bitsOf(reached)...)) {
				t.Fatalf("of %v and %d %v is come to in %d rounds", ties, from, got, rounds)
			}
			further := reached | 1<<from
			for key := range keys {
				if reached>>key&1 == 1 {
					further |= which >> (key * keys) & 15
				}
			}
			if rounds >= impl.RowKeys && further != reached {
				t.Fatalf("the model of %v and %d comes to more behind as many rounds as keys", ties, from)
			}
			reached = further
		}
	}
}

func TestPromise79OfChanges(t *testing.T) {
	for _, l := range growingFlowLoops() {
		enough, _ := impl.LoopFlow(l.ties, l.first, impl.RowKeys)
		for rounds := impl.RowKeys; rounds <= roundsMost; rounds++ {
			if got, ok := impl.LoopFlow(l.ties, l.first, rounds); !ok || !slices.Equal(got, enough) {
				t.Fatalf("LoopFlow of %s and %s in %d rounds is %t, %s, and %s in as many as keys", some(l.ties), some(l.first), rounds, ok, some(got), some(enough))
			}
		}
	}
	// Where something is taken away they need not be.
	ties, one := []impl.Row{row(0, 1, 0, 0, 1), row(1, 0, 0, 0, -1)}, []impl.Row{row(0, 0, 0, 0, 1)}
	made, _ := impl.LoopFlow(ties, one, roundsMost)
	if enough, _ := impl.LoopFlow(ties, one, impl.RowKeys); slices.Equal(made, enough) {
		t.Errorf("%v in all rounds", made)
	}
}

func TestPromise80LoopFlowAndLoopOutOfItAreBatches(t *testing.T) {
	told := 0
	for _, l := range append(flowLoops(), growingFlowLoops()...) {
		for rounds := 1; rounds <= roundsMost; rounds++ {
			made, ok := impl.LoopFlow(l.ties, l.first, rounds)
			if !ok || !impl.BatchOk(made) || !wantBatchOk(made) {
				t.Fatalf("LoopFlow of %s and %s in %d rounds is %t, %s", some(l.ties), some(l.first), rounds, ok, some(made))
			}
			for up := range side {
				out := impl.LoopOut(made, up)
				checkLeft(t, made, up, out)
				told += len(out)
			}
		}
	}
	if told < 5000 {
		t.Errorf("only %d changes left", told)
	}
	for _, a := range append(flowLists(), badLists()...) {
		for rounds := -1; rounds <= side; rounds++ {
			checkLeft(t, a, rounds, impl.LoopOut(a, rounds))
		}
	}
}

// checkLeft asks whether what left is a batch of no round.
func checkLeft(t *testing.T, a []impl.Row, rounds int, out []impl.Row) {
	t.Helper()
	if !impl.BatchOk(out) || !wantBatchOk(out) {
		t.Fatalf("LoopOut of %s in %d rounds is no batch: %s", some(a), rounds, some(out))
	}
	for _, r := range out {
		if r.At.B != 0 {
			t.Fatalf("LoopOut of %s in %d rounds has %v", some(a), rounds, r)
		}
	}
}
