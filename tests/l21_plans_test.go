package tests

import (
	"math"
	"slices"
	"testing"

	"loop.example/tideline/impl"
)

func TestPlansHaveTheirNumbers(t *testing.T) {
	kinds := []int{impl.PlanIn, impl.PlanEach, impl.PlanBoth, impl.PlanLess, impl.PlanJoin, impl.PlanSum}
	if !slices.Equal(kinds, []int{1, 2, 3, 4, 5, 6}) || impl.PlanIns != insMost || impl.PlanDeep != deepMost {
		t.Error(kinds, impl.PlanIns, impl.PlanDeep)
	}
}

func TestPlanOkOfEachKind(t *testing.T) {
	for kind := -2; kind <= 9; kind++ {
		for num := -2; num <= 9; num++ {
			for size := range 5 {
				p := impl.Plan{Kind: kind, Num: num, Kids: slices.Repeat([]impl.Plan{planIn(1)}, size)}
				if got := impl.PlanOk(p); got != wantPlanOk(p, deepMost) {
					t.Errorf("PlanOk of %s is %t", tellPlan(p), got)
				}
			}
		}
	}
	if !impl.PlanOk(impl.Plan{Kind: impl.PlanIn, Kids: []impl.Plan{}}) {
		t.Error("no Kids are not no Kids")
	}
}

func TestPlanOkAtTheEndsOfItsNumbers(t *testing.T) {
	cases := []struct {
		p  impl.Plan
		ok bool
	}{
		{planIn(0), true}, {planIn(1), true}, {planIn(-1), false}, {planIn(2), false},
		{planEach(1, planIn(0)), true}, {planEach(7, planIn(0)), true}, {planEach(0, planIn(0)), false}, {planEach(8, planIn(0)), false},
		{planSum(1, planIn(0)), true}, {planSum(3, planIn(0)), true}, {planSum(0, planIn(0)), false}, {planSum(4, planIn(0)), false},
		{impl.Plan{Kind: 3, Num: 0, Kids: []impl.Plan{planIn(0), planIn(1)}}, true},
		{impl.Plan{Kind: 3, Num: 1, Kids: []impl.Plan{planIn(0), planIn(1)}}, false},
		{impl.Plan{Kind: 3, Num: -1, Kids: []impl.Plan{planIn(0), planIn(1)}}, false},
		{impl.Plan{Kind: 4, Num: 0, Kids: []impl.Plan{planIn(0)}}, true},
		{impl.Plan{Kind: 4, Num: 1, Kids: []impl.Plan{planIn(0)}}, false},
		{impl.Plan{Kind: 4, Num: -1, Kids: []impl.Plan{planIn(0)}}, false},
		{impl.Plan{Kind: 5, Num: 0, Kids: []impl.Plan{planIn(0), planIn(1)}}, true},
		{impl.Plan{Kind: 5, Num: 1, Kids: []impl.Plan{planIn(0), planIn(1)}}, false},
		{impl.Plan{Kind: 5, Num: math.MinInt, Kids: []impl.Plan{planIn(0), planIn(1)}}, false},
		{impl.Plan{Kind: 1, Kids: []impl.Plan{planIn(0)}}, false},
		{impl.Plan{Kind: 2, Num: 1}, false},
		{impl.Plan{Kind: 2, Num: 1, Kids: []impl.Plan{planIn(0), planIn(0)}}, false},
		{impl.Plan{Kind: 3, Kids: []impl.Plan{planIn(0)}}, false},
		{impl.Plan{Kind: 3, Kids: []impl.Plan{planIn(0), planIn(0), planIn(0)}}, false},
		{impl.Plan{Kind: 4}, false},
		{impl.Plan{Kind: 4, Kids: []impl.Plan{planIn(0), planIn(0)}}, false},
		{impl.Plan{Kind: 5, Kids: []impl.Plan{planIn(0)}}, false},
		{impl.Plan{Kind: 5, Kids: []impl.Plan{planIn(0), planIn(0), planIn(0)}}, false},
		{impl.Plan{Kind: 6, Num: 1}, false},
		{impl.Plan{Kind: 6, Num: 1, Kids: []impl.Plan{planIn(0), planIn(0)}}, false},
		{impl.Plan{}, false},
		{impl.Plan{Kind: 7}, false},
		{impl.Plan{Kind: 7, Num: 1, Kids: []impl.Plan{planIn(0)}}, false},
		{planLess(planIn(2)), false},
		{planBoth(planIn(0), planEach(8, planIn(0))), false},
		{planJoin(planSum(4, planIn(0)), planIn(0)), false},
	}
	for _, c := range cases {
		if got := impl.PlanOk(c.p); got != c.ok {
			t.Errorf("PlanOk of %s is %t", tellPlan(c.p), got)
		}
	}
}

func TestPlanOkAsDeepAsCanBeAndDeeper(t *testing.T) {
	for turn := range 14 {
		for deep := 1; deep <= deepMost+4; deep++ {
			p := chain(deep, turn)
			if got := impl.PlanOk(p); got != (deep <= deepMost) {
				t.Errorf("PlanOk of %s, %d deep, is %t", tellPlan(p), deep, got)
			}
		}
	}
	full := planIn(0)
	for range deepMost - 1 {
		full = planBoth(full, full)
	}
	if !impl.PlanOk(full) || impl.PlanOk(planBoth(full, planIn(0))) || impl.PlanOk(planJoin(planIn(0), full)) {
		t.Error("plans with as many Kids in Kids as can be")
	}
}

func TestPlanOkOfAllPlansAndOfNone(t *testing.T) {
	for _, p := range slices.Concat(plansTo(3), deepPlans(600)) {
		if !impl.PlanOk(p) {
			t.Fatalf("%s is not ok", tellPlan(p))
		}
	}
	for _, p := range badPlans() {
		if impl.PlanOk(p) {
			t.Errorf("%s is ok", tellPlan(p))
		}
	}
	for _, p := range deepPlans(60) {
		for _, fault := range faultsOf(p) {
			if impl.PlanOk(fault) {
				t.Fatalf("%s is ok", tellPlan(fault))
			}
		}
	}
}

func TestPlanText(t *testing.T) {
	in0, in1 := planIn(0), planIn(1)
	cases := []struct {
		p    impl.Plan
		want string
	}{
		{in0, "in0"},
		{in1, "in1"},
		{planEach(1, in0), "each1 in0"},
		{planEach(7, in1), "each7 in1"},
		{planBoth(in0, in1), "both in0 in1"},
		{planBoth(in1, in0), "both in1 in0"},
		{planLess(in0), "less in0"},
		{planJoin(in0, in1), "join in0 in1"},
		{planJoin(in1, in1), "join in1 in1"},
		{planSum(1, in0), "sum1 in0"},
		{planSum(3, in1), "sum3 in1"},
		{planSum(1, planJoin(in0, in1)), "sum1 join in0 in1"},
		{planBoth(planLess(in0), planEach(4, in1)), "both less in0 each4 in1"},
		{planJoin(planBoth(in0, in1), in0), "join both in0 in1 in0"},
		{planJoin(in0, planBoth(in1, in0)), "join in0 both in1 in0"},
		{planLess(planLess(planLess(in1))), "less less less in1"},
		{planBoth(planJoin(planSum(2, in0), in1), planEach(5, planLess(in0))), "both join sum2 in0 in1 each5 less in0"},
		{planLess(planLess(planLess(planLess(in1)))), ""},
		{planIn(-1), ""},
		{planIn(2), ""},
		{planIn(10), ""},
		{planLess(planIn(2)), ""},
		{planBoth(in0, impl.Plan{}), ""},
		{impl.Plan{Kind: impl.PlanBoth, Num: 1, Kids: []impl.Plan{in0, in1}}, ""},
		{impl.Plan{Kind: impl.PlanLess}, ""},
		{impl.Plan{}, ""},
	}
	for _, c := range cases {
		if got := impl.PlanText(c.p); got != c.want {
			t.Errorf("PlanText of %s is %q, not %q", tellPlan(c.p), got, c.want)
		}
	}
}

func TestPlanTextOfAllPlansAndOfNone(t *testing.T) {
	texts := map[string]bool{}
	plans := plansTo(3)
	for _, p := range plans {
		got := impl.PlanText(p)
		if got != wantText(p) {
			t.Fatalf("PlanText of %s is %q", tellPlan(p), got)
		}
		texts[got] = true
	}
	if len(texts) != len(plans) {
		t.Errorf("%d plans have %d texts", len(plans), len(texts))
	}
	for _, p := range deepPlans(600) {
		if got := impl.PlanText(p); got != wantText(p) {
			t.Fatalf("PlanText of %s is %q", tellPlan(p), got)
		}
	}
	for _, p := range badPlans() {
		if got := impl.PlanText(p); got != "" {
			t.Errorf("PlanText of %s is %q", tellPlan(p), got)
		}
	}
}

// flowCase and setCase are what a plan makes of what comes in; where it is not ok nothing is wanted.
type flowCase struct {
	name     string
	p        impl.Plan
	in0, in1 []impl.Row
	want     []impl.Row
	ok       bool
}

type setCase struct {
	name     string
	p        impl.Plan
	in0, in1 []impl.Item
	want     []impl.Item
	ok       bool
}

func checkFlows(t *testing.T, cases []flowCase) {
	t.Helper()
	for _, c := range cases {
		if got, ok := impl.PlanFlow(c.p, [][]impl.Row{c.in0, c.in1}); ok != c.ok || !slices.Equal(got, c.want) {
			t.Errorf("%s: PlanFlow of %s of %s and %s is %t, %s", c.name, tellPlan(c.p), some(c.in0), some(c.in1), ok, some(got))
		}
	}
}

func checkSets(t *testing.T, cases []setCase) {
	t.Helper()
	for _, c := range cases {
		if got, ok := impl.PlanSet(c.p, [][]impl.Item{c.in0, c.in1}); ok != c.ok || !slices.Equal(got, c.want) {
			t.Errorf("%s: PlanSet of %s of %s and %s is %t, %s", c.name, tellPlan(c.p), some(c.in0), some(c.in1), ok, some(got))
		}
	}
}

func TestPlanFlowOfEachKind(t *testing.T) {
	in0, in1 := planIn(0), planIn(1)
	a := []impl.Row{row(0, 1, 0, 2, 1), row(0, 2, 2, 0, 1)}
	b := []impl.Row{row(0, 1, 0, 2, 3), row(0, 5, 1, 1, -2), row(1, 7, 3, 3, 1)}
	checkFlows(t, []flowCase{
		{"the first", in0, a, b, a, true},
		{"the second", in1, a, b, b, true},
		{"swapped", planEach(impl.MapSwap, in1), a, b, []impl.Row{row(1, 0, 0, 2, 3), row(1, 4, 1, 1, -2), row(3, 5, 3, 3, 1)}, true},
		{"next", planEach(impl.MapNext, in0), a, b, []impl.Row{row(0, 2, 0, 2, 1), row(0, 3, 2, 0, 1)}, true},
		{"by value", planEach(impl.MapKey, in0), a, b, []impl.Row{row(1, 1, 0, 2, 1), row(2, 2, 2, 0, 1)}, true},
		{"to one key", planEach(impl.MapOne, in1), a, b, []impl.Row{row(0, 1, 0, 2, 3), row(0, 5, 1, 1, -2), row(0, 7, 3, 3, 1)}, true},
		{"even", planEach(impl.KeepEven, in0), a, b, a[1:], true},
		{"even keys", planEach(impl.KeepKey, in1), a, b, b[:2], true},
		{"low", planEach(impl.KeepLow, in1), a, b, b, true},
		{"both", planBoth(in0, in1), a, b, []impl.Row{row(0, 1, 0, 2, 4), row(0, 2, 2, 0, 1), row(0, 5, 1, 1, -2), row(1, 7, 3, 3, 1)}, true},
		{"one twice", planBoth(in0, in0), a, b, []impl.Row{row(0, 1, 0, 2, 2), row(0, 2, 2, 0, 2)}, true},
		{"less", planLess(in1), a, b, []impl.Row{row(0, 1, 0, 2, -3), row(0, 5, 1, 1, 2), row(1, 7, 3, 3, -1)}, true},
		{"pairs", planJoin(in0, in1), a, b, []impl.Row{row(0, 11, 0, 2, 3), row(0, 15, 1, 2, -2), row(0, 21, 2, 2, 3), row(0, 25, 2, 1, -2)}, true},
		{"pairs, the other way round", planJoin(in1, in0), a, b, []impl.Row{row(0, 11, 0, 2, 3), row(0, 12, 2, 2, 3), row(0, 51, 1, 2, -2), row(0, 52, 2, 1, -2)}, true},
		{"count", planSum(impl.SumCount, in0), a, b, []impl.Row{row(0, 1, 0, 2, 1), row(0, 1, 2, 0, 1), row(0, 1, 2, 2, -2), row(0, 2, 2, 2, 1)}, true},
		{"once", planSum(impl.SumOnce, in1), a, b, []impl.Row{row(0, 1, 0, 2, 1), row(1, 7, 3, 3, 1)}, true},
		{"least", planSum(impl.SumLeast, in0), a, b, []impl.Row{row(0, 1, 0, 2, 1), row(0, 2, 2, 0, 1), row(0, 2, 2, 2, -1)}, true},
		{"the least pair", planSum(impl.SumLeast, planJoin(in0, in1)), a, b, []impl.Row{row(0, 11, 0, 2, 1)}, true},
		{"of two what one lacks", planSum(impl.SumOnce, planBoth(in1, planLess(in0))), a, b, []impl.Row{row(0, 1, 0, 2, 1), row(1, 7, 3, 3, 1)}, true},
		{"as deep as can be", planSum(impl.SumCount, planBoth(planEach(impl.KeepEven, in0), planLess(in0))), a, b, []impl.Row{row(0, 99, 0, 2, 1)}, true},
		{"too deep", planLess(planSum(impl.SumCount, planBoth(planEach(impl.KeepEven, in0), in0))), a, b, nil, false},
	})
}

func TestPlanSetOfEachKind(t *testing.T) {
	in0, in1 := planIn(0), planIn(1)
	a := []impl.Item{item(0, 1, 1), item(0, 2, 1)}
	b := []impl.Item{item(0, 1, 3), item(0, 5, -2), item(1, 17, 1)}
	checkSets(t, []setCase{
		{"the first", in0, a, b, a, true},
		{"the second", in1, a, b, b, true},
		{"swapped", planEach(impl.MapSwap, in1), a, b, []impl.Item{item(1, 0, 3), item(1, 4, -2), item(1, 17, 1)}, true},
		{"next", planEach(impl.MapNext, in0), a, b, []impl.Item{item(0, 2, 1), item(0, 3, 1)}, true},
		{"by value", planEach(impl.MapKey, in1), a, b, []impl.Item{item(1, 1, 3), item(1, 5, -2), item(1, 17, 1)}, true},
		{"to one key", planEach(impl.MapOne, in1), a, b, []impl.Item{item(0, 1, 3), item(0, 5, -2), item(0, 17, 1)}, true},
		{"even", planEach(impl.KeepEven, in0), a, b, a[1:], true},
		{"even keys", planEach(impl.KeepKey, in1), a, b, b[:2], true},
		{"low", planEach(impl.KeepLow, in1), a, b, b[:2], true},
		{"both", planBoth(in0, in1), a, b, []impl.Item{item(0, 1, 4), item(0, 2, 1), item(0, 5, -2), item(1, 17, 1)}, true},
		{"one twice", planBoth(in1, in1), a, b, []impl.Item{item(0, 1, 6), item(0, 5, -4), item(1, 17, 2)}, true},
		{"less", planLess(in1), a, b, []impl.Item{item(0, 1, -3), item(0, 5, 2), item(1, 17, -1)}, true},
		{"pairs", planJoin(in0, in1), a, b, []impl.Item{item(0, 11, 3), item(0, 15, -2), item(0, 21, 3), item(0, 25, -2)}, true},
		{"pairs, the other way round", planJoin(in1, in0), a, b, []impl.Item{item(0, 11, 3), item(0, 12, 3), item(0, 51, -2), item(0, 52, -2)}, true},
		{"count", planSum(impl.SumCount, in1), a, b, []impl.Item{item(0, 1, 1), item(1, 1, 1)}, true},
		{"once", planSum(impl.SumOnce, in1), a, b, []impl.Item{item(0, 1, 1), item(1, 17, 1)}, true},
		{"least", planSum(impl.SumLeast, in0), a, b, a[:1], true},
		{"all but the least", planBoth(in0, planLess(planSum(impl.SumLeast, in0))), a, b, a[1:], true},
		{"as deep as can be", planSum(impl.SumCount, planBoth(planEach(impl.KeepEven, in0), planLess(in0))), a, b, []impl.Item{item(0, 99, 1)}, true},
		{"too deep", planLess(planSum(impl.SumCount, planBoth(planEach(impl.KeepEven, in0), in0))), a, b, nil, false},
	})
}

func TestPlansOfNothing(t *testing.T) {
	for _, p := range slices.Concat(plansTo(3), deepPlans(60)) {
		for _, none := range [][]impl.Row{nil, {}} {
			if got, ok := impl.PlanFlow(p, [][]impl.Row{none, nil}); !ok || len(got) != 0 {
				t.Fatalf("PlanFlow of %s of nothing is %t, %s", tellPlan(p), ok, some(got))
			}
		}
		for _, none := range [][]impl.Item{nil, {}} {
			if got, ok := impl.PlanSet(p, [][]impl.Item{nil, none}); !ok || len(got) != 0 {
				t.Fatalf("PlanSet of %s of nothing is %t, %s", tellPlan(p), ok, some(got))
			}
		}
	}
}

func TestPlansOfFewerOrMoreThanComeIn(t *testing.T) {
	rows, items := []impl.Row{row(1, 5, 2, 2, 1)}, []impl.Item{item(1, 5, 1)}
	for _, p := range plansTo(2) {
		for _, size := range []int{0, 1, insMost, insMost + 1, 100} {
			for _, ins := range [][][]impl.Row{make([][]impl.Row, size), slices.Repeat([][]impl.Row{rows}, size)} {
				if got, ok := impl.PlanFlow(p, ins); ok != (size == insMost) || !ok && len(got) != 0 {
					t.Errorf("PlanFlow of %s of %d that come in is %t, %s", tellPlan(p), size, ok, some(got))
				}
			}
			for _, ins := range [][][]impl.Item{make([][]impl.Item, size), slices.Repeat([][]impl.Item{items}, size)} {
				if got, ok := impl.PlanSet(p, ins); ok != (size == insMost) || !ok && len(got) != 0 {
					t.Errorf("PlanSet of %s of %d that come in is %t, %s", tellPlan(p), size, ok, some(got))
				}
			}
		}
		if _, ok := impl.PlanFlow(p, nil); ok {
			t.Errorf("PlanFlow of %s of none that comes in", tellPlan(p))
		}
		if _, ok := impl.PlanSet(p, nil); ok {
			t.Errorf("PlanSet of %s of none that comes in", tellPlan(p))
		}
	}
}

// Also what a plan does not ask for must be ok.
func TestPlansOfWhatIsNotOk(t *testing.T) {
	good, fine := []impl.Row{row(0, 1, 1, 3, 2), row(3, 0, 2, 2, -4)}, []impl.Item{item(0, 1, 2), item(3, 0, -4)}
	for _, p := range append(plansTo(2), chain(deepMost, 0), planSum(impl.SumOnce, planLess(planEach(impl.KeepLow, planIn(0))))) {
		for _, bad := range badBatches() {
			for _, ins := range [][][]impl.Row{{bad, good}, {good, bad}, {bad, nil}, {nil, bad}, {bad, bad}} {
				if got, ok := impl.PlanFlow(p, ins); ok || len(got) != 0 {
					t.Fatalf("PlanFlow of %s of %s and %s is %t, %s", tellPlan(p), some(ins[0]), some(ins[1]), ok, some(got))
				}
			}
		}
		for _, bad := range badSets() {
			for _, ins := range [][][]impl.Item{{bad, fine}, {fine, bad}, {bad, nil}, {nil, bad}, {bad, bad}} {
				if got, ok := impl.PlanSet(p, ins); ok || len(got) != 0 {
					t.Fatalf("PlanSet of %s of %s and %s is %t, %s", tellPlan(p), some(ins[0]), some(ins[1]), ok, some(got))
				}
			}
		}
	}
}

func TestPlansThatAreNotOkMakeNothing(t *testing.T) {
	rows, items := []impl.Row{row(0, 1, 1, 3, 2), row(3, 0, 2, 2, -4)}, []impl.Item{item(0, 1, 2), item(3, 0, -4)}
	for _, p := range badPlans() {
		for _, ins := range [][][]impl.Row{{rows, rows}, {nil, nil}, nil, {rows}, {rows, rows, rows}} {
			if got, ok := impl.PlanFlow(p, ins); ok || len(got) != 0 {
				t.Errorf("PlanFlow of %s of %d that come in is %t, %s", tellPlan(p), len(ins), ok, some(got))
			}
		}
		for _, ins := range [][][]impl.Item{{items, items}, {nil, nil}, nil, {items}, {items, items, items}} {
			if got, ok := impl.PlanSet(p, ins); ok || len(got) != 0 {
				t.Errorf("PlanSet of %s of %d that come in is %t, %s", tellPlan(p), len(ins), ok, some(got))
			}
		}
	}
}

func TestPlanFlowOfMany(t *testing.T) {
	pairs, many := batchPairs(), manyPairs()
	told, none := 0, 0
	for i, p := range somePlans() {
		for _, ins := range append(takes(pairs, i, 6), takes(many, i, 1)...) {
			want, wantOk := wantPlanFlow(p, ins)
			if got, ok := impl.PlanFlow(p, ins); ok != wantOk || !slices.Equal(got, want) {
				t.Fatalf("PlanFlow of %s of %s and %s is %t, %s", tellPlan(p), some(ins[0]), some(ins[1]), ok, some(got))
			}
			if !wantOk {
				none++
			} else if len(want) > 0 {
				told++
			}
		}
	}
	if told < 1000 || none < 100 {
		t.Errorf("%d make something, of %d something is not ok", told, none)
	}
}

func TestPlanSetOfMany(t *testing.T) {
	sets := itemLists()
	told, none := 0, 0
	for i, p := range slices.Concat(plansTo(3), deepPlans(300)) {
		for j := range 3 {
			ins := [][]impl.Item{sets[(i*7+j*29)%len(sets)], sets[(i*31+j*53+5)%len(sets)]}
			want, wantOk := wantPlanSet(p, ins)
			if got, ok := impl.PlanSet(p, ins); ok != wantOk || !slices.Equal(got, want) {
				t.Fatalf("PlanSet of %s of %s and %s is %t, %s", tellPlan(p), some(ins[0]), some(ins[1]), ok, some(got))
			}
			if !wantOk {
				none++
			} else if len(want) > 0 {
				told++
			}
		}
	}
	if told < 1000 || none < 300 {
		t.Errorf("%d make something, of %d something is not ok", told, none)
	}
}
