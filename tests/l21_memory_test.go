package tests

import (
	"reflect"
	"slices"
	"testing"

	"loop.example/tideline/impl"
)

// planMark is no ok plan.
func planMark() impl.Plan {
	return impl.Plan{Kind: -77, Num: 77}
}

// roomyPlan is a plan with room behind the end of each list of Kids, filled with marks.
func roomyPlan(p impl.Plan) impl.Plan {
	kids := withRoom(p.Kids, planMark())
	for i, kid := range p.Kids {
		kids[i] = roomyPlan(kid)
	}
	return impl.Plan{Kind: p.Kind, Num: p.Num, Kids: kids}
}

func planUntouched(roomy impl.Plan, p impl.Plan) bool {
	if roomy.Kind != p.Kind || roomy.Num != p.Num || len(roomy.Kids) != len(p.Kids) {
		return false
	}
	for _, kid := range roomy.Kids[len(p.Kids) : len(p.Kids)+room] {
		if !reflect.DeepEqual(kid, planMark()) {
			return false
		}
	}
	for i, kid := range p.Kids {
		if !planUntouched(roomy.Kids[i], kid) {
			return false
		}
	}
	return true
}

// roomyIns are lists that come in with room behind the end of each, and of all, filled with marks.
func roomyIns[T any](ins [][]T, mark T) [][]T {
	roomy := withRoom(ins, []T{mark})
	for i, list := range ins {
		roomy[i] = withRoom(list, mark)
	}
	return roomy
}

func insUntouched[T comparable](roomy [][]T, ins [][]T, mark T) bool {
	for _, list := range roomy[len(ins) : len(ins)+room] {
		if !slices.Equal(list, []T{mark}) {
			return false
		}
	}
	for i, list := range ins {
		if !untouched(roomy[i], list, mark) {
			return false
		}
	}
	return len(roomy) == len(ins)
}

// memoryPlans are plans of each kind, some that are deep, and some that are not ok.
func memoryPlans() []impl.Plan {
	return slices.Concat(plansTo(2), deepPlans(24), []impl.Plan{
		{},
		planIn(2),
		planLess(planIn(-1)),
		chain(deepMost+1, 2),
		{Kind: impl.PlanBoth, Kids: []impl.Plan{planIn(0)}},
		{Kind: impl.PlanIn, Kids: []impl.Plan{planIn(0)}},
	})
}

// memoryInRows and memoryInItems are lists that come in, ok and not, too few and too many, and such as are what is made of them, so that an answer could be what came in.
func memoryInRows() [][][]impl.Row {
	once := []impl.Row{row(0, 2, 1, 1, 1), row(2, 4, 0, 3, 1)}
	ins := [][][]impl.Row{nil, {once}, {once, nil}, {nil, once}, {once, once}, {once, once, once}}
	lists := memoryFlows()
	for i, a := range lists {
		ins = append(ins, [][]impl.Row{a, lists[(i*7+3)%len(lists)]})
	}
	return append(ins, takes(batchPairs(), 3, 12)...)
}

func memoryInItems() [][][]impl.Item {
	once := []impl.Item{item(0, 2, 1), item(2, 4, 1)}
	ins := [][][]impl.Item{nil, {once}, {once, nil}, {nil, once}, {once, once}, {once, once, once}}
	sets := memoryItems()
	for i, s := range sets {
		ins = append(ins, [][]impl.Item{s, sets[(i*7+3)%len(sets)]})
	}
	return ins
}

// checkPlanned asks a plan twice, writes over the first answer, and looks whether anything else changed, or was written into.
func checkPlanned[T comparable](t *testing.T, p impl.Plan, ins [][]T, mark T, over T, makes func(impl.Plan, [][]T) ([]T, bool)) bool {
	t.Helper()
	plan, roomy := roomyPlan(p), roomyIns(ins, mark)
	first, _ := makes(plan, roomy)
	want := slices.Clone(first)
	if !planUntouched(plan, p) || !insUntouched(roomy, ins, mark) {
		t.Fatalf("%s, or what came in, was written into", tellPlan(p))
	}
	second, _ := makes(plan, roomy)
	scribble(first, over)
	if !insUntouched(roomy, ins, mark) {
		t.Fatalf("what %s makes shares memory with what came in", tellPlan(p))
	}
	again, _ := makes(plan, roomy)
	if !slices.Equal(second, want) || !slices.Equal(again, want) {
		t.Fatalf("two answers of %s share memory", tellPlan(p))
	}
	return len(want) > 0
}

func TestPlansWriteIntoNothingAndShareNoMemory(t *testing.T) {
	inRows, inItems := memoryInRows(), memoryInItems()
	rows, items := 0, 0
	for i, p := range memoryPlans() {
		for _, ins := range append(takes(inRows, i, 12), inRows[:6]...) {
			if checkPlanned(t, p, ins, rowMark, row(2, 2, 5, 5, 5), impl.PlanFlow) {
				rows++
			}
		}
		for _, ins := range append(takes(inItems, i, 12), inItems[:6]...) {
			if checkPlanned(t, p, ins, itemMark, item(2, 2, 2), impl.PlanSet) {
				items++
			}
		}
	}
	if rows < 150 || items < 300 {
		t.Errorf("%d make rows, %d make items", rows, items)
	}
}

func TestPlansAreNotWrittenIntoAsTheyAreAsked(t *testing.T) {
	for _, p := range memoryPlans() {
		roomy := roomyPlan(p)
		ok, text := impl.PlanOk(roomy), impl.PlanText(roomy)
		if !planUntouched(roomy, p) {
			t.Fatalf("%s was written into", tellPlan(p))
		}
		if ok != wantPlanOk(p, deepMost) || ok != (text != "") || ok && text != wantText(p) {
			t.Fatalf("%s is %t, %q", tellPlan(p), ok, text)
		}
	}
}

// What comes in may be pieces of one list, and Kids too.
func TestPlansOfPiecesOfOneList(t *testing.T) {
	whole := []impl.Row{row(0, 1, 0, 2, 1), row(0, 2, 1, 1, 2), row(0, 3, 2, 0, 3)}
	a := withRoom(whole, rowMark)
	kids := []impl.Plan{planIn(0), planIn(1), planIn(0)}
	p := impl.Plan{Kind: impl.PlanBoth, Kids: []impl.Plan{
		{Kind: impl.PlanJoin, Kids: kids[:2]},
		{Kind: impl.PlanJoin, Kids: kids[1:]},
	}}
	ins := [][]impl.Row{a[:2], a[1:]}
	want, _ := wantPlanFlow(p, [][]impl.Row{whole[:2], whole[1:]})
	if got, ok := impl.PlanFlow(p, ins); !ok || len(got) == 0 || !slices.Equal(got, want) {
		t.Errorf("PlanFlow of two pieces of %v is %t, %v", whole, ok, got)
	}
	first, _ := impl.PlanFlow(planIn(0), ins)
	first = append(first, row(3, 3, 3, 3, 3))
	scribble(first, row(2, 2, 5, 5, 5))
	if !untouched(a, whole, rowMark) {
		t.Errorf("%v was written into: %v", whole, a)
	}
	there := []impl.Item{item(0, 1, 1), item(0, 2, 2), item(0, 3, 3)}
	s := withRoom(there, itemMark)
	wantThere, _ := wantPlanSet(p, [][]impl.Item{there[:2], there[1:]})
	if got, ok := impl.PlanSet(p, [][]impl.Item{s[:2], s[1:]}); !ok || len(got) == 0 || !slices.Equal(got, wantThere) {
		t.Errorf("PlanSet of two pieces of %v is %t, %v", there, ok, got)
	}
	if !untouched(s, there, itemMark) || !reflect.DeepEqual(kids, []impl.Plan{planIn(0), planIn(1), planIn(0)}) {
		t.Errorf("%v or %v was written into", s, kids)
	}
}
