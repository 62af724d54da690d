package tests

import (
	"math"
	"math/big"
	"slices"

	"loop.example/tideline/impl"
)

// The model of items is a number without a limit for each key and value there is, so that what is put together is looked up, in order, and never too great on the way.

const (
	countMost = 1 << 40
	things    = keys * vals
)

// ways are the numbers of all ways of SetEach, keeps of those that keep some.
var (
	ways  = []int{impl.MapSwap, impl.MapNext, impl.MapKey, impl.MapOne, impl.KeepEven, impl.KeepKey, impl.KeepLow}
	keeps = []int{impl.KeepEven, impl.KeepKey, impl.KeepLow}
)

type bag [things]big.Int

func (b *bag) add(key int, val int, n *big.Int) {
	place := &b[key*vals+val]
	place.Add(place, n)
}

// items are what is in a bag, and whether each number of it is an int.
func (b *bag) items() ([]impl.Item, bool) {
	var in []impl.Item
	for place := range b {
		n := &b[place]
		if !n.IsInt64() {
			return nil, false
		}
		if n.Sign() != 0 {
			in = append(in, item(place/vals, place%vals, int(n.Int64())))
		}
	}
	return in, true
}

func bagOf(sets ...[]impl.Item) *bag {
	var b bag
	for _, s := range sets {
		for _, x := range s {
			b.add(x.Key, x.Val, big.NewInt(int64(x.Count)))
		}
	}
	return &b
}

// wantBoth is all of ok items together.
func wantBoth(sets ...[]impl.Item) []impl.Item {
	want, _ := bagOf(sets...).items()
	return want
}

// wantWay is what a way makes of a key and a value, as the table of the document has it, and whether they are kept.
func wantWay(key int, val int, how int) (int, int, bool) {
	switch how {
	case 1:
		return val & 3, val&^3 | key, true
	case 2:
		if val == 99 {
			return key, 0, true
		}
		return key, val + 1, true
	case 3:
		return val & 3, val, true
	case 4:
		return 0, val, true
	case 5:
		return key, val, val&1 == 0
	case 6:
		return key, val, key == 0 || key == 2
	default:
		return key, val, val <= 9
	}
}

func wantEach(s []impl.Item, how int) []impl.Item {
	var b bag
	for _, x := range s {
		if key, val, kept := wantWay(x.Key, x.Val, how); kept {
			b.add(key, val, big.NewInt(int64(x.Count)))
		}
	}
	want, _ := b.items()
	return want
}

// wantJoin is all pairs of ok items, and whether each number of them is an int.
func wantJoin(s []impl.Item, t []impl.Item) ([]impl.Item, bool) {
	var b bag
	var n big.Int
	for _, x := range s {
		for _, y := range t {
			if x.Key == y.Key {
				// Ten times a value leaves of it the last figure alone.
				n.Mul(big.NewInt(int64(x.Count)), big.NewInt(int64(y.Count)))
				b.add(x.Key, (x.Val%10*10+y.Val)%vals, &n)
			}
		}
	}
	return b.items()
}

func wantLessItems(s []impl.Item) []impl.Item {
	less := slices.Clone(s)
	for i := range less {
		less[i].Count *= -1
	}
	return less
}

func wantCount(s []impl.Item) []impl.Item {
	var want []impl.Item
	for key := range keys {
		var sum, val big.Int
		for _, x := range s {
			if x.Key == key {
				sum.Add(&sum, big.NewInt(int64(x.Count)))
			}
		}
		if sum.Sign() != 0 {
			// Mod of big numbers is never below 0.
			val.Mod(&sum, big.NewInt(vals))
			want = append(want, item(key, int(val.Int64()), 1))
		}
	}
	return want
}

func wantOnce(s []impl.Item) []impl.Item {
	var want []impl.Item
	for key := range keys {
		for val := range vals {
			if slices.ContainsFunc(s, func(x impl.Item) bool { return x.Key == key && x.Val == val && x.Count > 0 }) {
				want = append(want, item(key, val, 1))
			}
		}
	}
	return want
}

func wantLeast(s []impl.Item) []impl.Item {
	var want []impl.Item
	for key := range keys {
		least := vals
		for _, x := range s {
			if x.Key == key && x.Count > 0 {
				least = min(least, x.Val)
			}
		}
		if least < vals {
			want = append(want, item(key, least, 1))
		}
	}
	return want
}

// allItems is an item of each key and value there is, as many as can be, in order.
func allItems(n int) []impl.Item {
	var all []impl.Item
	for place := range things {
		all = append(all, item(place/vals, place%vals, n))
	}
	return all
}

// sampleItems are ok items: of a key, a value or a Count at a limit, of less than nothing, of keys whose Counts come to 0, all there are.
func sampleItems() [][]impl.Item {
	return [][]impl.Item{
		nil,
		{},
		{item(0, 0, 1)},
		{item(3, 99, 1)},
		{item(0, 99, -1)},
		{item(3, 0, -1)},
		{item(1, 5, countMost)},
		{item(1, 5, -countMost)},
		{item(1, 5, -3), item(1, 6, 2), item(1, 7, 1)},
		{item(1, 5, -3), item(2, 5, 3)},
		{item(0, 98, 1), item(0, 99, 2), item(1, 0, 4), item(1, 99, -2)},
		{item(0, 9, 1), item(0, 10, 2), item(2, 9, -1), item(2, 10, 7)},
		{item(0, 3, -1), item(1, 3, 2), item(2, 3, -4), item(3, 3, 3)},
		{item(2, 1, 1), item(2, 11, -1), item(2, 21, 2), item(2, 31, -2)},
		{item(0, 0, countMost), item(0, 1, -countMost), item(3, 98, -countMost), item(3, 99, countMost)},
		{item(0, 40, countMost), item(1, 40, countMost), item(2, 40, -countMost), item(3, 40, 1)},
		allItems(1),
		allItems(-1),
		allItems(countMost),
		allItems(-countMost),
	}
}

// items are ok items of a kind, as many as are left of so many that are put together.
func (s *steps) items(k kind, size int) []impl.Item {
	var counts [keys][vals]int
	for range size {
		counts[s.below(k.keys)][s.below(k.vals)] += s.between(k.diff)
	}
	var list []impl.Item
	for place := range things {
		if n := counts[place/vals][place%vals]; n != 0 {
			list = append(list, item(place/vals, place%vals, max(-countMost, min(countMost, n))))
		}
	}
	return list
}

// between is a number from less than nothing by as much as most up to it; below alone has no more than 2^32.
func (s *steps) between(most int) int {
	high := s.below(1 << 16)
	return (high<<32|s.below(1<<32))%(2*most+1) - most
}

// smallItems are ok items of which many may be put together and multiplied, and stay ok.
func smallItems() [][]impl.Item {
	var sets [][]impl.Item
	for _, list := range sampleItems() {
		if !slices.ContainsFunc(list, func(x impl.Item) bool { return x.Count > 99 || x.Count < -99 }) {
			sets = append(sets, list)
		}
	}
	s := steps(3)
	for _, k := range []kind{{1, 2, 0, 1}, {2, 3, 0, 1}, {4, 4, 0, 2}, {4, 12, 0, 3}, {1, 100, 0, 2}, {4, 100, 0, 9}} {
		for _, size := range []int{1, 2, 3, 5, 9, 20, 60, 200} {
			sets = append(sets, s.items(k, size), s.items(k, size))
		}
	}
	return sets
}

// greatItems are ok items of which some are too much together, or multiplied, and some of these are no int.
func greatItems() [][]impl.Item {
	var sets [][]impl.Item
	s := steps(33)
	for _, most := range []int{1 << 20, 1 << 31, 1 << 38, countMost} {
		for _, size := range []int{1, 3, 9, 60} {
			sets = append(sets, s.items(kind{2, 3, 0, most}, size), s.items(kind{4, 100, 0, most}, size))
		}
	}
	return sets
}

// itemLists are all ok items that the tests ask of.
func itemLists() [][]impl.Item {
	return slices.Concat(sampleItems(), smallItems(), greatItems())
}

// badItems are items with one number out of bounds, by as little and by as much as can be, or of nothing.
func badItems() []impl.Item {
	bad := []impl.Item{item(1, 5, 0)}
	for _, n := range []int{-1, keys, math.MinInt, math.MaxInt} {
		bad = append(bad, item(n, 5, 1))
	}
	for _, n := range []int{-1, vals, math.MinInt, math.MaxInt} {
		bad = append(bad, item(1, n, 1))
	}
	for _, n := range []int{-countMost - 1, countMost + 1, math.MinInt, math.MaxInt} {
		bad = append(bad, item(1, 5, n))
	}
	return bad
}

// badSets are items that are not ok: a bad one alone, or where it would stand in order, out of order, one that stands twice, one more than can be.
func badSets() [][]impl.Item {
	var sets [][]impl.Item
	good := []impl.Item{item(0, 1, 2), item(1, 4, 1), item(1, 6, -1), item(3, 0, -4)}
	for _, bad := range badItems() {
		sets = append(sets, []impl.Item{bad})
		for place := range len(good) + 1 {
			sets = append(sets, slices.Insert(slices.Clone(good), place, bad))
		}
	}
	full := allItems(1)
	swapped := slices.Clone(full)
	swapped[399], swapped[398] = swapped[398], swapped[399]
	twice := slices.Clone(full)
	twice[399] = twice[398]
	return append(sets,
		[]impl.Item{item(1, 1, 1), item(0, 1, 1)},
		[]impl.Item{item(1, 0, 1), item(0, 99, 1)},
		[]impl.Item{item(0, 2, 1), item(0, 1, 1)},
		[]impl.Item{item(0, 1, 1), item(0, 3, 1), item(0, 2, 1)},
		[]impl.Item{item(1, 5, 1), item(1, 5, 1)},
		[]impl.Item{item(1, 5, 1), item(1, 5, 2)},
		[]impl.Item{item(1, 5, 1), item(1, 5, -1)},
		[]impl.Item{item(1, 5, 2), item(1, 5, 1)},
		swapped,
		twice,
		append(slices.Clone(full), item(3, 99, 1)),
		append(slices.Clone(full), item(3, 100, 1)),
		append(slices.Clone(full), item(4, 0, 1)),
		append([]impl.Item{item(0, -1, 1)}, full...),
		slices.Concat(full, full))
}
