package tests

import (
	"testing"

	"loop.example/tideline/impl"
)

// scribblePlan writes over each list of Kids of a plan, its spare room included, and says whether no two of them share memory.
func scribblePlan(p impl.Plan) bool {
	return numbered(kidLists(p), func(q *impl.Plan, n int) { q.Num = n }, func(q impl.Plan) int { return q.Num })
}

func TestWhatIsReadOfATextSharesNoMemory(t *testing.T) {
	for _, p := range append(somePlans(), fullPlan()) {
		text := impl.PlanText(p)
		first, _ := impl.LinesPlan(text)
		second, _ := impl.LinesPlan(text)
		if !scribblePlan(first) {
			t.Fatalf("lists of Kids of %q share memory", text)
		}
		third, ok := impl.LinesPlan(text)
		if !ok || !samePlan(second, p) || !samePlan(third, p) {
			t.Fatalf("two answers of %q share memory", text)
		}
	}
}
