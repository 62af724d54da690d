package tests

import (
	"fmt"
	"slices"

	"loop.example/tideline/impl"
)

// The model of plans at work asks the model of plans what is made of all that came in, again and again, and takes of that what is ahead of a front row by row.

func sess(p impl.Plan, f []impl.Time, told []impl.Row, ins ...[]impl.Row) impl.Sess {
	return impl.Sess{Plan: p, Ins: ins, Front: f, Told: told}
}

// tellSess is a plan at work as a test tells it: not all rows of many.
func tellSess(s impl.Sess) string {
	told := fmt.Sprintf("%s at %v", tellPlan(s.Plan), s.Front)
	for _, rows := range s.Ins[:min(len(s.Ins), insMost+1)] {
		told += " [" + some(rows) + "]"
	}
	return told + ", told [" + some(s.Told) + "]"
}

func samePlan(p impl.Plan, q impl.Plan) bool {
	return p.Kind == q.Kind && p.Num == q.Num && slices.EqualFunc(p.Kids, q.Kids, samePlan)
}

func sameSess(s impl.Sess, u impl.Sess) bool {
	return samePlan(s.Plan, u.Plan) && slices.EqualFunc(s.Ins, u.Ins, slices.Equal[[]impl.Row]) &&
		slices.Equal(s.Front, u.Front) && slices.Equal(s.Told, u.Told)
}

func noSess(s impl.Sess) bool {
	return sameSess(s, impl.Sess{})
}

// wantSettled says whether an ok time is ahead of a front.
func wantSettled(f []impl.Time, s impl.Time) bool {
	for _, u := range f {
		if u.A <= s.A && u.B <= s.B {
			return false
		}
	}
	return true
}

// wantAhead are those of ok rows that are ahead of a front, and wantRest the others.
func wantAhead(f []impl.Time, rows []impl.Row) []impl.Row {
	return slices.DeleteFunc(slices.Clone(rows), func(r impl.Row) bool { return !wantSettled(f, r.At) })
}

func wantRest(f []impl.Time, rows []impl.Row) []impl.Row {
	return slices.DeleteFunc(slices.Clone(rows), func(r impl.Row) bool { return wantSettled(f, r.At) })
}

// atWork is an ok plan at work with a front, to which batches came, and whether all that is made of them is ok.
func atWork(p impl.Plan, f []impl.Time, ins ...[]impl.Row) (impl.Sess, bool) {
	made, ok := wantPlanFlow(p, ins)
	if !ok {
		return impl.Sess{}, false
	}
	return sess(p, f, wantAhead(f, made), ins...), true
}

func wantSessOk(s impl.Sess) bool {
	if !wantFrontOk(s.Front) || !wantPlanOk(s.Plan, deepMost) || len(s.Ins) != insMost || !wantBatchOk(s.Ins[0]) || !wantBatchOk(s.Ins[1]) {
		return false
	}
	want, ok := atWork(s.Plan, s.Front, s.Ins...)
	return ok && slices.Equal(s.Told, want.Told)
}

// wantSessIn is a plan at work, which is ok, to which rows came, and whether they can.
func wantSessIn(s impl.Sess, which int, rows []impl.Row) (impl.Sess, bool) {
	if which < 0 || which >= insMost || !wantBatchOk(rows) || len(wantAhead(s.Front, rows)) > 0 {
		return impl.Sess{}, false
	}
	both, ok := wantBatch(s.Ins[which], rows)
	if !ok {
		return impl.Sess{}, false
	}
	ins := slices.Clone(s.Ins)
	ins[which] = both
	return atWork(s.Plan, s.Front, ins...)
}

// wantSessOn is a plan at work, which is ok, with a front that moved on, what is told of it, and whether it can move there.
func wantSessOn(s impl.Sess, f []impl.Time) (impl.Sess, []impl.Row, bool) {
	if !wantFrontOk(f) || !wantOn(s.Front, f) {
		return impl.Sess{}, nil, false
	}
	next, ok := atWork(s.Plan, f, s.Ins...)
	came, _ := wantBatch(next.Told, wantLess(s.Told))
	return next, came, ok
}

// wantOn says whether all times of a front are at another one, or behind it.
func wantOn(from []impl.Time, f []impl.Time) bool {
	return !slices.ContainsFunc(f, func(u impl.Time) bool { return wantSettled(from, u) })
}

// wantSessAt is what a plan at work, which is ok, tells at a time, and whether it does.
func wantSessAt(s impl.Sess, u impl.Time) ([]impl.Item, bool) {
	if !within(u.A, side) || !within(u.B, side) || !wantSettled(s.Front, u) {
		return nil, false
	}
	return wantItems(s.Told, u), true
}

// sessFronts are fronts of each length, the empty one among them, and some early ones, at which something came already, and something did not.
func sessFronts() [][]impl.Time {
	early := [][]impl.Time{
		{at(0, 0)},
		{at(1, 1)},
		{at(0, 1), at(1, 0)},
		{at(0, 1)},
		{at(1, 0)},
		{at(0, 2), at(1, 1), at(2, 0)},
		{at(1, 2), at(2, 1)},
		{at(0, 3), at(1, 1)},
		{at(2, 2)},
		{at(1, 4), at(4, 1)},
		{at(3, 3)},
		nil,
	}
	var fronts [][]impl.Time
	for i, f := range fewFronts() {
		fronts = append(fronts, f, early[i%len(early)])
	}
	return fronts
}

// sessLists are all ok plans at work that the tests ask of.
func sessLists() []impl.Sess {
	pairs, many, fronts := batchPairs(), manyPairs(), sessFronts()
	var list []impl.Sess
	for i, p := range somePlans() {
		for j, ins := range withMany(takes(pairs, i, 3), many, i) {
			if s, ok := atWork(p, fronts[(i*5+j*19)%len(fronts)], ins...); ok {
				list = append(list, s)
			}
		}
	}
	return list
}

// firstOf is the first time of a front, or the last there is, if that is empty.
func firstOf(f []impl.Time) impl.Time {
	if len(f) == 0 {
		return at(side-1, side-1)
	}
	return f[0]
}

// notAhead are rows moved to a front, as far as they are at it then, or behind it, if they are ok together.
func notAhead(f []impl.Time, rows []impl.Row) []impl.Row {
	moved, _ := wantBatch(wantMoved(rows, f))
	return wantRest(f, moved)
}

// sessComers are, of batches, some to come to a plan at work: none, such as are at its front, behind it, ahead of it and partly so, such as take away what is there, and such as are much.
func sessComers(s impl.Sess, all [][]impl.Row, turn int) [][]impl.Row {
	batches := takes(all, turn, 4)
	first := firstOf(s.Front)
	return [][]impl.Row{
		nil,
		{row(1, 5, first.A, first.B, 1)},
		{row(0, 1, 7, 7, diffMost)},
		notAhead(s.Front, batches[0]),
		notAhead(s.Front, batches[1]),
		wantRest(s.Front, batches[2]),
		wantLess(wantRest(s.Front, s.Ins[0])),
		batches[3],
	}
}

// badSesses are plans at work that are not ok, and why.
func badSesses() map[string]impl.Sess {
	good := []impl.Row{row(0, 1, 1, 3, 2), row(3, 0, 2, 2, -4)}
	first, two := []impl.Time{at(0, 0)}, []impl.Time{at(1, 3), at(3, 1)}
	bad := map[string]impl.Sess{
		"nothing":                          {},
		"nothing came in, not even none":   sess(planIn(0), first, nil),
		"one lacks":                        sess(planIn(0), first, nil, good),
		"one is too many":                  sess(planIn(0), first, nil, good, good, nil),
		"many are too many":                sess(planIn(0), first, nil, make([][]impl.Row, 1000)...),
		"both are too much":                sess(planBoth(planIn(0), planIn(1)), first, nil, []impl.Row{row(1, 8, 1, 2, diffMost)}, []impl.Row{row(1, 8, 1, 2, 1)}),
		"pairs are too much":               sess(planJoin(planIn(0), planIn(1)), nil, nil, []impl.Row{row(1, 8, 1, 2, 317)}, []impl.Row{row(1, 8, 1, 2, 317)}),
		"too much on the way":              sess(planEach(impl.KeepLow, planBoth(planIn(0), planIn(0))), two, nil, []impl.Row{row(1, 18, 1, 2, 50000)}, nil),
		"too many rows on the way":         sess(planSum(impl.SumCount, planBoth(planIn(0), planIn(1))), first, nil, manyRows(rowsMost, 1), []impl.Row{row(3, 0, 0, 0, 1)}),
		"too much that is taken away then": sess(planBoth(planBoth(planIn(0), planIn(1)), planLess(planIn(1))), first, nil, []impl.Row{row(1, 8, 1, 2, diffMost)}, []impl.Row{row(1, 8, 1, 2, 1)}),
	}
	for i, p := range badPlans() {
		bad[fmt.Sprintf("no plan: %d", i)] = sess(p, first, nil, nil, nil)
		bad[fmt.Sprintf("no plan, and much came in: %d", i)] = sess(p, nil, nil, good, good)
	}
	for why, f := range badFronts() {
		bad["no front: "+why] = sess(planIn(0), f, nil, nil, nil)
		bad["no front, and all is told: "+why] = sess(planIn(0), f, good, good, nil)
		bad["no front, and nothing is told: "+why] = sess(planIn(0), f, nil, good, nil)
	}
	for i, rows := range badBatches() {
		bad[fmt.Sprintf("the first is no batch: %d", i)] = sess(planIn(0), first, nil, rows, good)
		bad[fmt.Sprintf("the second is no batch: %d", i)] = sess(planIn(1), first, nil, good, rows)
		bad[fmt.Sprintf("no batch, and it is not asked for: %d", i)] = sess(planIn(0), nil, good, good, rows)
		bad[fmt.Sprintf("no batch, and it is told: %d", i)] = sess(planIn(0), nil, rows, rows, nil)
	}
	for why, told := range badTolds() {
		bad["told: "+why] = told
	}
	return bad
}

// badTolds are plans at work that would be ok, if something else were told, and why.
func badTolds() map[string]impl.Sess {
	rows := []impl.Row{row(0, 1, 0, 2, 1), row(0, 2, 2, 0, 2), row(1, 7, 0, 1, -3), row(1, 7, 3, 3, 1)}
	front := []impl.Time{at(1, 3), at(3, 1)}
	right := rows[:3]
	with := func(place int, change func(r *impl.Row)) []impl.Row {
		told := slices.Clone(right)
		change(&told[place])
		return told
	}
	tolds := map[string][]impl.Row{
		"nothing":                        nil,
		"the first row lacks":            right[1:],
		"the last row lacks":             right[:2],
		"a row in the midst lacks":       {right[0], right[2]},
		"what is not settled, too":       rows,
		"a row that nothing made":        append(slices.Clone(right), row(2, 2, 0, 0, 1)),
		"a row that nothing made, first": slices.Insert(slices.Clone(right), 0, row(0, 0, 0, 0, 1)),
		"the last row twice":             append(slices.Clone(right), right[2]),
		"all rows twice":                 slices.Concat(right, right),
		"a row of nothing":               append(slices.Clone(right), row(2, 2, 0, 0, 0)),
		"two rows that cancel":           append(slices.Clone(right), row(2, 2, 0, 0, 1), row(2, 2, 0, 0, -1)),
		"a row in two parts":             {right[0], row(0, 2, 2, 0, 1), row(0, 2, 2, 0, 1), right[2]},
		"out of order":                   {right[1], right[0], right[2]},
		"of another key":                 with(2, func(r *impl.Row) { r.Key = 2 }),
		"of another value":               with(1, func(r *impl.Row) { r.Val = 3 }),
		"at another time, A":             with(0, func(r *impl.Row) { r.At.A = 1 }),
		"at another time, B":             with(1, func(r *impl.Row) { r.At.B = 1 }),
		"one more":                       with(2, func(r *impl.Row) { r.Diff++ }),
		"less":                           with(0, func(r *impl.Row) { r.Diff = -1 }),
		"a key that is none":             with(0, func(r *impl.Row) { r.Key = -1 }),
		"a time that is none":            with(1, func(r *impl.Row) { r.At.B = side }),
		"many rows":                      manyRows(3*rowsMost, 1),
		"some rows elsewhere":            manyRows(3, 1),
	}
	bad := map[string]impl.Sess{
		"something, where nothing is made":    sess(planIn(1), front, right, rows, nil),
		"something, where nothing is settled": sess(planIn(0), []impl.Time{at(0, 0)}, right, rows, nil),
		"what is settled, where all is":       sess(planIn(0), nil, right, rows, nil),
		"what is settled at another front":    sess(planIn(0), []impl.Time{at(0, 2)}, right, rows, nil),
		"what comes in, not what is made":     sess(planLess(planIn(0)), front, right, rows, nil),
		"what comes in elsewhere":             sess(planIn(0), front, right, rows[:2], rows),
	}
	for why, told := range tolds {
		bad[why] = sess(planIn(0), front, told, rows, nil)
	}
	return bad
}
