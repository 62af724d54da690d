package tests

import (
	"slices"
	"testing"

	"loop.example/tideline/impl"
)

// What is made on the way must be ok, at the top and below it, whatever is made of it.

// flowsOver are plans below which there is one of which something is not ok, so that each of them would make something that is ok again, or nothing, if it were not asked.
func flowsOver(p impl.Plan) map[string]impl.Plan {
	return map[string]impl.Plan{
		"itself":                         p,
		"less":                           planLess(p),
		"swapped":                        planEach(impl.MapSwap, p),
		"what is even":                   planEach(impl.KeepEven, p),
		"what is low":                    planEach(impl.KeepLow, p),
		"of even keys":                   planEach(impl.KeepKey, p),
		"how many":                       planSum(impl.SumCount, p),
		"once":                           planSum(impl.SumOnce, p),
		"the least":                      planSum(impl.SumLeast, p),
		"with the first":                 planBoth(p, planIn(0)),
		"behind the second":              planBoth(planIn(1), p),
		"without itself":                 planBoth(p, planLess(p)),
		"pairs with the second":          planJoin(p, planIn(1)),
		"pairs, second":                  planJoin(planIn(0), p),
		"pairs with nothing":             planJoin(p, planBoth(planIn(0), planLess(planIn(0)))),
		"pairs with nothing, second":     planJoin(planBoth(planIn(1), planLess(planIn(1))), p),
		"low and even":                   planEach(impl.KeepEven, planEach(impl.KeepLow, p)),
		"once of how many":               planSum(impl.SumOnce, planSum(impl.SumCount, p)),
		"pairs of nothing with the rest": planJoin(planEach(impl.KeepLow, p), planIn(1)),
	}
}

func checkNoFlow(t *testing.T, name string, p impl.Plan, in0 []impl.Row, in1 []impl.Row) {
	t.Helper()
	if !wantBatchOk(in0) || !wantBatchOk(in1) {
		t.Errorf("%s: what comes in is no batch", name)
	}
	for over, q := range flowsOver(p) {
		if !wantPlanOk(q, deepMost) {
			continue
		}
		if got, ok := impl.PlanFlow(q, [][]impl.Row{in0, in1}); ok || len(got) != 0 {
			t.Errorf("%s, %s: PlanFlow of %s of %s and %s is %t, %s", name, over, tellPlan(q), some(in0), some(in1), ok, some(got))
		}
	}
}

func checkNoSet(t *testing.T, name string, p impl.Plan, in0 []impl.Item, in1 []impl.Item) {
	t.Helper()
	if !impl.SetOk(in0) || !impl.SetOk(in1) {
		t.Errorf("%s: what comes in is not ok", name)
	}
	for over, q := range flowsOver(p) {
		if !wantPlanOk(q, deepMost) {
			continue
		}
		if got, ok := impl.PlanSet(q, [][]impl.Item{in0, in1}); ok || len(got) != 0 {
			t.Errorf("%s, %s: PlanSet of %s of %s and %s is %t, %s", name, over, tellPlan(q), some(in0), some(in1), ok, some(got))
		}
	}
}

func TestPlanFlowAtTheLimitOfADiff(t *testing.T) {
	in0, in1 := planIn(0), planIn(1)
	one := func(key int, val int, diff int) []impl.Row { return []impl.Row{row(key, val, 1, 2, diff)} }
	back := []impl.Row{row(0, 8, 1, 2, diffMost), row(1, 8, 1, 2, diffMost), row(2, 8, 1, 2, -diffMost)}
	checkFlows(t, []flowCase{
		{"both", planBoth(in0, in1), one(1, 18, 99998), one(1, 18, 1), one(1, 18, 99999), true},
		{"both, less", planBoth(in0, in1), one(1, 18, -1), one(1, 18, -99998), one(1, 18, -99999), true},
		{"both, of another time", planBoth(in0, in1), one(1, 18, 99999), []impl.Row{row(1, 18, 2, 1, 99999)}, []impl.Row{row(1, 18, 1, 2, 99999), row(1, 18, 2, 1, 99999)}, true},
		{"both, at last nothing", planBoth(in0, in1), one(1, 18, 99999), one(1, 18, -99999), nil, true},
		{"to one key", planEach(impl.MapOne, in0), []impl.Row{row(0, 8, 1, 2, 50000), row(1, 8, 1, 2, 49999)}, nil, one(0, 8, 99999), true},
		{"to one key, not too much together", planEach(impl.MapOne, in0), back, nil, one(0, 8, 99999), true},
		{"less", planLess(in0), one(1, 18, -99999), nil, one(1, 18, 99999), true},
		{"pairs", planJoin(in0, in1), one(1, 1, 3), one(1, 8, 33333), one(1, 18, 99999), true},
		{"pairs, less", planJoin(in0, in1), one(1, 1, -99999), one(1, 8, 1), one(1, 18, -99999), true},
		{"counts", planSum(impl.SumCount, in0), one(1, 18, 99999), nil, one(1, 99, 1), true},
		{"counts of what is there at last", planSum(impl.SumCount, in0), []impl.Row{row(1, 18, 1, 2, 99999), row(1, 18, 1, 3, 99999)}, nil, []impl.Row{row(1, 98, 1, 3, 1), row(1, 99, 1, 2, 1), row(1, 99, 1, 3, -1)}, true},
		{"what is too much is not asked for", in0, one(1, 18, 99999), one(1, 18, 99999), one(1, 18, 99999), true},
		{"taken away ahead of coming", planBoth(planBoth(in0, planLess(in1)), in1), one(1, 18, 99999), one(1, 18, 1), one(1, 18, 99999), true},
	})
	for _, c := range []struct {
		name     string
		p        impl.Plan
		in0, in1 []impl.Row
	}{
		{"both", planBoth(in0, in1), one(1, 18, 99999), one(1, 18, 1)},
		{"both, less", planBoth(in0, in1), one(1, 18, -1), one(1, 18, -99999)},
		{"both, low", planBoth(in0, in1), one(1, 8, 50000), one(1, 8, 50000)},
		{"both, even keys", planBoth(in1, in0), one(2, 18, 99999), one(2, 18, 99999)},
		{"one twice", planBoth(in0, in0), one(1, 18, 50000), nil},
		{"one of many", planBoth(in0, in1), append(manyRows(20, 1), row(1, 18, 1, 2, 99999)), one(1, 18, 1)},
		{"to one key", planEach(impl.MapOne, in0), []impl.Row{row(0, 8, 1, 2, 50000), row(1, 8, 1, 2, 50000)}, one(0, 1, 1)},
		{"to one key, high", planEach(impl.MapOne, in0), []impl.Row{row(0, 18, 1, 2, -99999), row(1, 18, 1, 2, -1)}, nil},
		{"by value", planEach(impl.MapKey, in1), nil, []impl.Row{row(0, 7, 1, 2, 99999), row(2, 7, 1, 2, 1)}},
		{"pairs", planJoin(in0, in1), one(1, 1, 2), one(1, 8, 50000)},
		{"pairs, less", planJoin(in0, in1), one(1, 0, -99999), one(1, 8, 99999)},
		{"pairs that come to one", planJoin(in0, in1), []impl.Row{row(1, 1, 1, 2, 1), row(1, 11, 1, 2, 99999)}, one(1, 8, 1)},
		{"pairs with themselves", planJoin(in0, in0), one(1, 11, 317), nil},
		{"pairs, as great as can be", planJoin(in0, in1), manyRows(rowsMost, diffMost), manyRows(rowsMost, diffMost)},
	} {
		checkNoFlow(t, c.name, c.p, c.in0, c.in1)
	}
}

func TestPlanFlowOfAsManyRowsAsCanBe(t *testing.T) {
	in0, in1 := planIn(0), planIn(1)
	more := manyRows(rowsMost+1, 1)
	cross0, cross1 := crossRows()
	cross0, cross1 = sorted(cross0), sorted(cross1)
	first := row(0, 0, 0, 0, 1)
	count400 := sorted(slices.Concat(squareRows(0, 8, 8), squareRows(1, 6, 8), squareRows(2, 1, 4), squareRows(3, 1, 2)))
	least400 := sorted(slices.Concat(slopeRows(0, count), slopeRows(1, 48), slopeRows(2, 4), slopeRows(3, 2)))
	once400 := sorted(append(forkRows(133), row(3, 0, 0, 0, 1)))
	for _, c := range []struct {
		name     string
		p        impl.Plan
		in0, in1 []impl.Row
		size     int
	}{
		{"what comes in", in1, nil, more[:rowsMost], rowsMost},
		{"less", planLess(in0), more[:rowsMost], nil, rowsMost},
		{"both", planBoth(in0, in1), more[:200], more[200:rowsMost], rowsMost},
		{"both, one more", planBoth(in0, in1), more[:200], more[200:], rowsMost + 1},
		{"both, two that come to one", planBoth(in0, in1), more[:201], more[200:rowsMost], rowsMost},
		{"both, two that come to none", planBoth(in0, in1), more[:rowsMost], manyRows(rowsMost, -1), 0},
		{"both, many more", planBoth(in0, in1), manyRows(rowsMost, 1), sorted(forkRows(200)), rowsMost * 2},
		{"pairs", planJoin(in0, in1), cross0, cross1, rowsMost},
		{"pairs, one more", planJoin(in0, in1), append([]impl.Row{first}, cross0...), append([]impl.Row{first}, cross1...), rowsMost + 1},
		{"pairs, one that has none", planJoin(in0, in1), append([]impl.Row{first}, cross0...), cross1, rowsMost},
		{"counts", planSum(impl.SumCount, in0), count400, nil, rowsMost},
		{"counts, one more", planSum(impl.SumCount, in0), sorted(append(count400, row(3, 7, 0, 2, -2))), nil, rowsMost + 1},
		{"the least", planSum(impl.SumLeast, in0), least400, nil, rowsMost},
		{"the least, one more", planSum(impl.SumLeast, in0), sorted(append(least400, row(3, 98, 0, 2, -1), row(3, 99, 0, 2, -1))), nil, rowsMost + 1},
		{"once", planSum(impl.SumOnce, in0), once400, nil, rowsMost},
		{"once, one more", planSum(impl.SumOnce, in0), sorted(append(once400, row(3, 1, 0, 0, 1))), nil, rowsMost + 1},
		{"once, many more", planSum(impl.SumOnce, in0), sorted(forkRows(200)), []impl.Row{first}, 600},
	} {
		want, wantOk := wantPlanFlow(c.p, [][]impl.Row{c.in0, c.in1})
		got, ok := impl.PlanFlow(c.p, [][]impl.Row{c.in0, c.in1})
		if ok != wantOk || !slices.Equal(got, want) || ok != (c.size <= rowsMost) || ok && len(got) != c.size {
			t.Errorf("%s: %t, %d rows, not %t, %d", c.name, ok, len(got), wantOk, len(want))
		}
		if c.size > rowsMost {
			checkNoFlow(t, c.name, c.p, c.in0, c.in1)
		}
	}
}

// What is made at each time may be ok where its changes are not.
func TestPlanSetIsOkWherePlanFlowIsNot(t *testing.T) {
	p := planBoth(planIn(0), planIn(1))
	most := []impl.Row{row(1, 8, 1, 2, diffMost)}
	if got, ok := impl.PlanFlow(p, [][]impl.Row{most, most}); ok || len(got) != 0 {
		t.Errorf("PlanFlow is %t, %v", ok, got)
	}
	there := itemsAt([][]impl.Row{most, most}, at(1, 2))
	if got, ok := impl.PlanSet(p, there); !ok || !slices.Equal(got, []impl.Item{item(1, 8, 2*diffMost)}) {
		t.Errorf("PlanSet is %t, %v", ok, got)
	}
}

func TestPlanSetAtTheLimitOfACount(t *testing.T) {
	in0, in1 := planIn(0), planIn(1)
	one := func(key int, val int, n int) []impl.Item { return []impl.Item{item(key, val, n)} }
	back := []impl.Item{item(0, 8, countMost), item(1, 8, countMost), item(2, 8, -countMost)}
	cancel := []impl.Item{item(1, 1, countMost), item(1, 11, -countMost), item(1, 21, 1)}
	checkSets(t, []setCase{
		{"what comes in", in0, one(1, 18, countMost), one(1, 18, -countMost), one(1, 18, countMost), true},
		{"both", planBoth(in0, in1), one(1, 18, countMost-1), one(1, 18, 1), one(1, 18, countMost), true},
		{"both, less", planBoth(in0, in1), one(1, 18, -1), one(1, 18, 1-countMost), one(1, 18, -countMost), true},
		{"both, at last nothing", planBoth(in0, in1), one(1, 18, countMost), one(1, 18, -countMost), nil, true},
		{"to one key", planEach(impl.MapOne, in0), []impl.Item{item(0, 8, 1), item(1, 8, countMost-1)}, nil, one(0, 8, countMost), true},
		{"to one key, not too much together", planEach(impl.MapOne, in0), back, nil, one(0, 8, countMost), true},
		{"less", planLess(in0), one(1, 18, -countMost), nil, one(1, 18, countMost), true},
		{"pairs", planJoin(in0, in1), one(1, 1, 1<<20), one(1, 8, 1<<20), one(1, 18, countMost), true},
		{"pairs, less", planJoin(in0, in1), one(1, 1, -1), one(1, 8, countMost), one(1, 18, -countMost), true},
		{"pairs, not too much together", planJoin(in0, in1), cancel, one(1, 8, countMost), one(1, 18, countMost), true},
		{"counts of all that can be", planSum(impl.SumCount, in0), allItems(countMost), nil, []impl.Item{item(0, 0, 1), item(1, 0, 1), item(2, 0, 1), item(3, 0, 1)}, true},
		{"once of all that can be", planSum(impl.SumOnce, in0), allItems(countMost), nil, allItems(1), true},
		{"taken away ahead of coming", planBoth(planBoth(in0, planLess(in1)), in1), one(1, 18, countMost), one(1, 18, 1), one(1, 18, countMost), true},
	})
	for _, c := range []struct {
		name     string
		p        impl.Plan
		in0, in1 []impl.Item
	}{
		{"both", planBoth(in0, in1), one(1, 18, countMost), one(1, 18, 1)},
		{"both, less", planBoth(in0, in1), one(1, 18, -1), one(1, 18, -countMost)},
		{"both, low", planBoth(in0, in1), one(1, 8, countMost), one(1, 8, countMost)},
		{"both, all", planBoth(in0, in1), allItems(countMost), allItems(1)},
		{"one twice", planBoth(in0, in0), one(2, 18, countMost/2+1), nil},
		{"to one key", planEach(impl.MapOne, in0), []impl.Item{item(0, 8, countMost), item(1, 8, 1)}, one(0, 1, 1)},
		{"to one key, all", planEach(impl.MapOne, in0), allItems(-countMost), nil},
		{"by value", planEach(impl.MapKey, in1), nil, []impl.Item{item(0, 7, countMost), item(2, 7, 1)}},
		{"pairs", planJoin(in0, in1), one(1, 1, 1<<20), one(1, 8, 1<<20+1)},
		{"pairs, less", planJoin(in0, in1), one(1, 1, -countMost), one(1, 8, 2)},
		{"pairs that come to one", planJoin(in0, in1), []impl.Item{item(1, 1, countMost), item(1, 11, 1)}, one(1, 8, 1)},
		{"pairs, no int", planJoin(in0, in1), one(1, 1, countMost), one(1, 8, countMost)},
		{"pairs, no int, less", planJoin(in0, in1), one(1, 1, countMost), one(1, 8, -countMost)},
		{"pairs, no int, of 64 bits nothing", planJoin(in0, in1), one(1, 1, 1<<32), one(1, 8, 1<<32)},
		{"pairs, no int, of 64 bits one", planJoin(in0, in1), []impl.Item{item(1, 1, 1<<32), item(1, 11, 1)}, []impl.Item{item(1, 8, 1<<32), item(1, 18, 1)}},
		{"pairs with themselves", planJoin(in0, in0), one(1, 18, 1<<20+1), nil},
		{"pairs, as great as can be", planJoin(in0, in1), allItems(countMost), allItems(countMost)},
	} {
		checkNoSet(t, c.name, c.p, c.in0, c.in1)
	}
}

// As deep as can be, at the place that is furthest from the top, on either side.
func TestPlansWithTooMuchAtTheBottom(t *testing.T) {
	rows, items := []impl.Row{row(1, 18, 1, 2, diffMost)}, []impl.Item{item(1, 18, countMost)}
	bad, good := planBoth(planIn(0), planIn(0)), planBoth(planIn(1), planIn(1))
	for _, q := range allPlans(3, planIn(0), planIn(1)) {
		for _, way := range []func(impl.Plan) impl.Plan{
			func(p impl.Plan) impl.Plan { return planEach(impl.KeepLow, planEach(impl.KeepLow, p)) },
			func(p impl.Plan) impl.Plan { return planJoin(planBoth(p, planIn(1)), q) },
			func(p impl.Plan) impl.Plan { return planBoth(q, planSum(impl.SumOnce, p)) },
			func(p impl.Plan) impl.Plan { return planJoin(planIn(1), planJoin(planIn(1), p)) },
			func(p impl.Plan) impl.Plan { return planSum(impl.SumLeast, planJoin(planIn(1), p)) },
		} {
			for name, p := range map[string]impl.Plan{"bad": way(bad), "good": way(good)} {
				want, wantOk := wantPlanFlow(p, [][]impl.Row{rows, nil})
				if got, ok := impl.PlanFlow(p, [][]impl.Row{rows, nil}); ok != wantOk || ok && name == "bad" || !slices.Equal(got, want) {
					t.Fatalf("%s: PlanFlow of %s is %t, %v", name, tellPlan(p), ok, got)
				}
				there, thereOk := wantPlanSet(p, [][]impl.Item{items, nil})
				if got, ok := impl.PlanSet(p, [][]impl.Item{items, nil}); ok != thereOk || ok && name == "bad" || !slices.Equal(got, there) {
					t.Fatalf("%s: PlanSet of %s is %t, %v", name, tellPlan(p), ok, got)
				}
			}
		}
	}
}
