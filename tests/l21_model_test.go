package tests

import (
	"fmt"
	"math"
	"slices"
	"strings"

	"loop.example/tideline/impl"
)

// The model of plans goes along a plan by the numbers of the document's table, and has the models of batches, items and changes make what each kind makes.

const (
	insMost  = 2
	deepMost = 4
)

func planIn(n int) impl.Plan {
	return impl.Plan{Kind: impl.PlanIn, Num: n}
}

func planEach(how int, p impl.Plan) impl.Plan {
	return impl.Plan{Kind: impl.PlanEach, Num: how, Kids: []impl.Plan{p}}
}

func planBoth(p impl.Plan, q impl.Plan) impl.Plan {
	return impl.Plan{Kind: impl.PlanBoth, Kids: []impl.Plan{p, q}}
}

func planLess(p impl.Plan) impl.Plan {
	return impl.Plan{Kind: impl.PlanLess, Kids: []impl.Plan{p}}
}

func planJoin(p impl.Plan, q impl.Plan) impl.Plan {
	return impl.Plan{Kind: impl.PlanJoin, Kids: []impl.Plan{p, q}}
}

func planSum(kind int, p impl.Plan) impl.Plan {
	return impl.Plan{Kind: impl.PlanSum, Num: kind, Kids: []impl.Plan{p}}
}

// tellPlan is a plan as a test tells it, whether it is ok or not: not all of one that is deep.
func tellPlan(p impl.Plan) string {
	return tellPlanTo(p, deepMost+2)
}

func tellPlanTo(p impl.Plan, deep int) string {
	if deep == 0 {
		return ".."
	}
	var kids []string
	for _, kid := range p.Kids[:min(len(p.Kids), 4)] {
		kids = append(kids, tellPlanTo(kid, deep-1))
	}
	return fmt.Sprintf("%d.%d(%s)", p.Kind, p.Num, strings.Join(kids, " "))
}

// wantShape is how many Kids a kind has, from which Num to which it goes, and how it is written without that.
func wantShape(kind int) (kids int, first int, last int, word string) {
	switch kind {
	case 1:
		return 0, 0, 1, "in"
	case 2:
		return 1, 1, 7, "each"
	case 3:
		return 2, 0, 0, "both"
	case 4:
		return 1, 0, 0, "less"
	case 5:
		return 2, 0, 0, "join"
	case 6:
		return 1, 1, 3, "sum"
	}
	return -1, 0, 0, ""
}

// wantPlanOk says whether a plan is ok that may be so deep.
func wantPlanOk(p impl.Plan, deep int) bool {
	kids, first, last, _ := wantShape(p.Kind)
	if deep == 0 || len(p.Kids) != kids || p.Num < first || p.Num > last {
		return false
	}
	for _, kid := range p.Kids {
		if !wantPlanOk(kid, deep-1) {
			return false
		}
	}
	return true
}

// wantText is how an ok plan is written.
func wantText(p impl.Plan) string {
	_, _, last, word := wantShape(p.Kind)
	if last > 0 {
		word += fmt.Sprint(p.Num)
	}
	words := []string{word}
	for _, kid := range p.Kids {
		words = append(words, wantText(kid))
	}
	return strings.Join(words, " ")
}

// wantPlanFlow is what an ok plan makes of as many batches as come in, and whether all of it is ok.
func wantPlanFlow(p impl.Plan, ins [][]impl.Row) ([]impl.Row, bool) {
	var kids [][]impl.Row
	for _, kid := range p.Kids {
		made, ok := wantPlanFlow(kid, ins)
		if !ok {
			return nil, false
		}
		kids = append(kids, made)
	}
	switch p.Kind {
	case 1:
		return ins[p.Num], true
	case 2:
		return wantFlowEach(kids[0], p.Num)
	case 3:
		return wantBatch(kids...)
	case 4:
		return wantBatch(wantLess(kids[0]))
	case 5:
		return wantFlowJoin(kids[0], kids[1])
	default:
		return wantFlowSum(kids[0], p.Num)
	}
}

// wantPlanSet is what an ok plan makes of as many items as come in, and whether all of it is ok.
func wantPlanSet(p impl.Plan, ins [][]impl.Item) ([]impl.Item, bool) {
	var kids [][]impl.Item
	for _, kid := range p.Kids {
		made, ok := wantPlanSet(kid, ins)
		if !ok {
			return nil, false
		}
		kids = append(kids, made)
	}
	made, ok := wantItemsMade(p, ins, kids)
	if !ok || slices.ContainsFunc(made, func(x impl.Item) bool { return x.Count < -countMost || x.Count > countMost }) {
		return nil, false
	}
	return made, true
}

// wantItemsMade is what a plan makes of what its Kids made, and whether each number of it is an int.
func wantItemsMade(p impl.Plan, ins [][]impl.Item, kids [][]impl.Item) ([]impl.Item, bool) {
	switch p.Kind {
	case 1:
		return ins[p.Num], true
	case 2:
		return wantEach(kids[0], p.Num), true
	case 3:
		return wantBoth(kids...), true
	case 4:
		return wantLessItems(kids[0]), true
	case 5:
		return wantJoin(kids[0], kids[1])
	default:
		return wantSum(kids[0], p.Num), true
	}
}

// plansOver are all plans that have some of these as their Kids.
func plansOver(kids []impl.Plan) []impl.Plan {
	var plans []impl.Plan
	for _, p := range kids {
		for _, how := range ways {
			plans = append(plans, planEach(how, p))
		}
		for _, kind := range kinds {
			plans = append(plans, planSum(kind, p))
		}
		plans = append(plans, planLess(p))
	}
	for _, p := range kids {
		for _, q := range kids {
			plans = append(plans, planBoth(p, q), planJoin(p, q))
		}
	}
	return plans
}

// allPlans are all plans of these, and of what is made of them, that are at most so deep.
func allPlans(deep int, firsts ...impl.Plan) []impl.Plan {
	plans := firsts
	for range deep - 1 {
		plans = append(slices.Clone(firsts), plansOver(plans)...)
	}
	return plans
}

func plansTo(deep int) []impl.Plan {
	return allPlans(deep, planIn(0), planIn(1))
}

// deepPlans are some plans that are as deep as can be, of each kind at the top.
func deepPlans(n int) []impl.Plan {
	kids := plansTo(deepMost - 1)
	deep := slices.DeleteFunc(slices.Clone(kids), func(p impl.Plan) bool { return wantPlanOk(p, deepMost-2) })
	s := steps(21)
	var plans []impl.Plan
	for i := range n {
		p, q := deep[s.below(len(deep))], kids[s.below(len(kids))]
		switch i % 6 {
		case 0:
			plans = append(plans, planEach(ways[i/6%len(ways)], p))
		case 1:
			plans = append(plans, planBoth(p, q))
		case 2:
			plans = append(plans, planLess(p))
		case 3:
			plans = append(plans, planJoin(p, q))
		case 4:
			plans = append(plans, planSum(kinds[i/6%len(kinds)], p))
		default:
			plans = append(plans, planBoth(q, p), planJoin(q, p))
		}
	}
	return plans
}

// somePlans are all plans that are at most two deep, some that are three deep, and some that are as deep as can be.
func somePlans() []impl.Plan {
	plans := plansTo(2)
	for i, p := range plansTo(3) {
		if i%11 == 0 && !wantPlanOk(p, 2) {
			plans = append(plans, p)
		}
	}
	return append(plans, deepPlans(120)...)
}

// planBatches are all batches that come in to plans in the tests.
func planBatches() [][]impl.Row {
	var batches [][]impl.Row
	for _, list := range smallFlows() {
		if batch, ok := wantBatch(list); ok {
			batches = append(batches, batch)
		}
	}
	return batches
}

// batchPairs are all that come in to plans together in the tests.
func batchPairs() [][][]impl.Row {
	batches := planBatches()
	var pairs [][][]impl.Row
	for i := range batches {
		for _, b := range partners(batches, i)[1:3] {
			pairs = append(pairs, [][]impl.Row{batches[i], b})
		}
	}
	return pairs
}

// takes tells, of many that come in to one plan, so many, not the same ones for each plan.
func takes[T any](all []T, plan int, n int) []T {
	var few []T
	for i := range n {
		few = append(few, all[(plan*17+i*41)%len(all)])
	}
	return few
}

// withMany are some that come in to one plan, and for a plan now and then also one of such as have many rows, which are slow.
func withMany(few [][][]impl.Row, many [][][]impl.Row, plan int) [][][]impl.Row {
	if plan%9 > 0 {
		return few
	}
	return append(few, takes(many, plan, 1)...)
}

// manyPairs are such as come in with as many rows as can be, or nearly so, so that something that is made is often too much.
func manyPairs() [][][]impl.Row {
	a, b := crossRows()
	half := manyRows(rowsMost, 1)
	return [][][]impl.Row{
		{manyRows(rowsMost, 1), nil},
		{nil, manyRows(rowsMost, diffMost)},
		{manyRows(rowsMost, 1), manyRows(rowsMost, -1)},
		{manyRows(rowsMost, diffMost), manyRows(rowsMost, 1)},
		{half[:200], half[200:]},
		{half[:201], half[200:]},
		{sorted(a), sorted(b)},
		{forkRows(133), []impl.Row{row(3, 0, 0, 0, 1)}},
		{forkRows(rowsMost / 2), []impl.Row{row(0, 5, 1, 1, 1)}},
		{sorted(slices.Concat(slopeRows(0, count), slopeRows(1, 48), slopeRows(2, 4), slopeRows(3, 2))), forkRows(2)},
		{sorted(slices.Concat(squareRows(0, 8, 8), squareRows(1, 8, 8))), sorted(squareRows(2, 8, 8))},
	}
}

// sorted are ok rows, which are not too much together, as a batch.
func sorted(list []impl.Row) []impl.Row {
	batch, _ := wantBatch(list)
	return batch
}

// itemsAt are what there is of all that comes in at a time.
func itemsAt(ins [][]impl.Row, s impl.Time) [][]impl.Item {
	var there [][]impl.Item
	for _, list := range ins {
		there = append(there, impl.BatchAt(list, s))
	}
	return there
}

// faultsOf are plans with one fault of a plan that was ok, at its top or at one of its Kids.
func faultsOf(p impl.Plan) []impl.Plan {
	kids, first, last, _ := wantShape(p.Kind)
	var bad []impl.Plan
	for _, num := range []int{first - 1, last + 1, math.MinInt, math.MaxInt, first - 1<<32, last + 1<<32} {
		bad = append(bad, impl.Plan{Kind: p.Kind, Num: num, Kids: p.Kids})
	}
	for _, kind := range []int{0, -1, 7, 8, p.Kind + 1<<32, -p.Kind, math.MinInt, math.MaxInt} {
		bad = append(bad, impl.Plan{Kind: kind, Num: p.Num, Kids: p.Kids})
	}
	bad = append(bad, impl.Plan{Kind: p.Kind, Num: p.Num, Kids: append(slices.Clone(p.Kids), planIn(0))})
	if kids > 0 {
		bad = append(bad, impl.Plan{Kind: p.Kind, Num: p.Num, Kids: p.Kids[1:]}, impl.Plan{Kind: p.Kind, Num: p.Num})
	}
	for i, kid := range p.Kids {
		for _, fault := range faultsOf(kid) {
			others := slices.Clone(p.Kids)
			others[i] = fault
			bad = append(bad, impl.Plan{Kind: p.Kind, Num: p.Num, Kids: others})
		}
	}
	return bad
}

// chain is a plan so deep, of plans with one Kid, or with a deep one at one side, by turns.
func chain(deep int, turn int) impl.Plan {
	p := planIn(turn % insMost)
	for i := range deep - 1 {
		switch (i*5 + turn) % 7 {
		case 0:
			p = planLess(p)
		case 1:
			p = planBoth(p, planIn(1))
		case 2:
			p = planEach(ways[i%len(ways)], p)
		case 3:
			p = planJoin(planIn(0), p)
		case 4:
			p = planSum(kinds[i%len(kinds)], p)
		case 5:
			p = planBoth(planIn(0), p)
		default:
			p = planJoin(p, planIn(1))
		}
	}
	return p
}

// endlessPlans are plans whose Kids hold themselves.
func endlessPlans() []impl.Plan {
	var plans []impl.Plan
	for kind := 1; kind <= 6; kind++ {
		size, first, _, _ := wantShape(kind)
		kids := make([]impl.Plan, max(size, 1))
		for i := range kids {
			kids[i] = impl.Plan{Kind: kind, Num: first, Kids: kids}
		}
		plans = append(plans, kids[0])
	}
	return plans
}

// badPlans are plans that are not ok: with each fault there is of some that are, too deep, of too many Kids, and without an end.
func badPlans() []impl.Plan {
	bad := []impl.Plan{
		{},
		{Num: 1},
		{Kids: []impl.Plan{planIn(0)}},
		{Kind: impl.PlanLess, Kids: make([]impl.Plan, 1)},
		{Kind: impl.PlanLess, Kids: slices.Repeat([]impl.Plan{planIn(0)}, 100000)},
		{Kind: impl.PlanIn, Kids: make([]impl.Plan, 100000)},
		{Kind: impl.PlanBoth, Kids: []impl.Plan{planIn(0), chain(100000, 3)}},
	}
	for _, p := range []impl.Plan{
		planIn(0),
		planIn(1),
		planEach(impl.KeepLow, planIn(1)),
		planSum(impl.SumLeast, planIn(0)),
		planLess(planBoth(planIn(0), planIn(1))),
		planJoin(planEach(impl.MapSwap, planIn(0)), planLess(planIn(1))),
		planBoth(planSum(impl.SumCount, planJoin(planIn(0), planIn(1))), planIn(0)),
		planSum(impl.SumOnce, planLess(planEach(impl.MapNext, planIn(1)))),
	} {
		bad = append(bad, faultsOf(p)...)
	}
	for turn := range 14 {
		bad = append(bad, chain(deepMost+1, turn), chain(deepMost+2, turn), chain(1000, turn))
	}
	return append(bad, endlessPlans()...)
}
