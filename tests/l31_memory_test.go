package tests

import (
	"slices"
	"testing"

	"loop.example/tideline/impl"
)

// roomySess is a plan at work with room behind the end of each of its lists, filled with marks.
func roomySess(s impl.Sess) impl.Sess {
	return sess(roomyPlan(s.Plan), withRoom(s.Front, mark), withRoom(s.Told, rowMark), roomyIns(s.Ins, rowMark)...)
}

func sessUntouched(roomy impl.Sess, s impl.Sess) bool {
	return planUntouched(roomy.Plan, s.Plan) && insUntouched(roomy.Ins, s.Ins, rowMark) &&
		untouched(roomy.Front, s.Front, mark) && untouched(roomy.Told, s.Told, rowMark)
}

func copyPlan(p impl.Plan) impl.Plan {
	made := impl.Plan{Kind: p.Kind, Num: p.Num}
	for _, kid := range p.Kids {
		made.Kids = append(made.Kids, copyPlan(kid))
	}
	return made
}

func copySess(s impl.Sess) impl.Sess {
	made := sess(copyPlan(s.Plan), slices.Clone(s.Front), slices.Clone(s.Told))
	for _, rows := range s.Ins {
		made.Ins = append(made.Ins, slices.Clone(rows))
	}
	return made
}

// memorySesses are plans at work, ok and not, with fronts of each length.
func memorySesses() []impl.Sess {
	list := []impl.Sess{balance()}
	for i, s := range sessLists() {
		if i%9 == 0 {
			list = append(list, s)
		}
	}
	for _, p := range memoryPlans() {
		list = append(list, sess(p, []impl.Time{at(0, 0)}, nil, nil, nil))
	}
	bad := badSesses()
	for _, why := range []string{"nothing", "one lacks", "one is too many", "both are too much", "too much on the way", "no front: out of order", "the second is no batch: 3", "told: nothing", "told: what is not settled, too", "told: out of order"} {
		list = append(list, bad[why])
	}
	return list
}

// sessAnswer is all that a call answers that has memory.
type sessAnswer struct {
	sess impl.Sess
	told []impl.Row
}

// sessMakers are all that make a plan at work of another one.
func sessMakers(b []impl.Row, f []impl.Time) map[string]func(impl.Sess) sessAnswer {
	in := func(s impl.Sess, which int, rows []impl.Row) sessAnswer {
		made, _ := impl.SessIn(s, which, rows)
		return sessAnswer{sess: made}
	}
	on := func(s impl.Sess, f []impl.Time) sessAnswer {
		made, told, _ := impl.SessOn(s, f)
		return sessAnswer{made, told}
	}
	return map[string]func(impl.Sess) sessAnswer{
		"SessNew": func(s impl.Sess) sessAnswer {
			made, _ := impl.SessNew(s.Plan)
			return sessAnswer{sess: made}
		},
		"SessIn, to the first":             func(s impl.Sess) sessAnswer { return in(s, 0, b) },
		"SessIn, to the second":            func(s impl.Sess) sessAnswer { return in(s, 1, b) },
		"SessIn, to none":                  func(s impl.Sess) sessAnswer { return in(s, 2, b) },
		"SessIn of nothing, to the first":  func(s impl.Sess) sessAnswer { return in(s, 0, nil) },
		"SessIn of nothing, to the second": func(s impl.Sess) sessAnswer { return in(s, 1, b[:0]) },
		"SessIn of what came to the first": func(s impl.Sess) sessAnswer {
			if len(s.Ins) == 0 {
				return sessAnswer{}
			}
			return in(s, 1, s.Ins[0])
		},
		"SessOn":             func(s impl.Sess) sessAnswer { return on(s, f) },
		"SessOn of its own":  func(s impl.Sess) sessAnswer { return on(s, s.Front) },
		"SessOn to a part":   func(s impl.Sess) sessAnswer { return on(s, s.Front[:len(s.Front)/2]) },
		"SessOn to none":     func(s impl.Sess) sessAnswer { return on(s, nil) },
		"SessOn to an empty": func(s impl.Sess) sessAnswer { return on(s, f[:0]) },
	}
}

func TestNoPlanAtWorkIsWrittenInto(t *testing.T) {
	rows, front := []impl.Row{row(0, 1, 7, 7, 2), row(1, 5, 7, 7, 1)}, []impl.Time{at(5, 7), at(7, 5)}
	b, f := withRoom(rows, rowMark), withRoom(front, mark)
	for _, s := range memorySesses() {
		roomy := roomySess(s)
		impl.SessOk(roomy)
		for _, u := range []impl.Time{at(0, 0), at(2, 2), at(7, 7), at(8, 0)} {
			impl.SessAt(roomy, u)
		}
		if !sessUntouched(roomy, s) {
			t.Fatalf("%s was written into as it was asked", tellSess(s))
		}
		for name, maker := range sessMakers(b, f) {
			maker(roomy)
			if !sessUntouched(roomy, s) || !untouched(b, rows, rowMark) || !untouched(f, front, mark) {
				t.Fatalf("%s wrote into %s, or into what came in", name, tellSess(s))
			}
		}
	}
}

// kidLists are all lists of Kids of a plan, with their spare room.
func kidLists(p impl.Plan) [][]impl.Plan {
	lists := [][]impl.Plan{p.Kids[:cap(p.Kids)]}
	for _, kid := range p.Kids {
		lists = append(lists, kidLists(kid)...)
	}
	return lists
}

// numbered writes another number to each place of each list, and says whether all are as they were written then: else two lists share memory.
func numbered[T any](lists [][]T, write func(*T, int), read func(T) int) bool {
	n := 0
	for _, list := range lists {
		for i := range list[:cap(list)] {
			n++
			write(&list[:cap(list)][i], n)
		}
	}
	n = 0
	for _, list := range lists {
		for _, x := range list[:cap(list)] {
			n++
			if read(x) != n {
				return false
			}
		}
	}
	return true
}

// scribbleAnswer writes over each list of an answer, its spare room included, and tells of what kind lists are that share memory.
func scribbleAnswer(a sessAnswer) string {
	rows := append(slices.Clone(a.sess.Ins), a.sess.Told, a.told)
	kids := kidLists(a.sess.Plan)
	fronts := [][]impl.Time{a.sess.Front}
	switch {
	case !numbered(rows, func(r *impl.Row, n int) { r.Diff = n }, func(r impl.Row) int { return r.Diff }):
		return "rows"
	case !numbered(kids, func(p *impl.Plan, n int) { p.Num = n }, func(p impl.Plan) int { return p.Num }):
		return "Kids"
	case !numbered(fronts, func(s *impl.Time, n int) { s.A = n }, func(s impl.Time) int { return s.A }):
		return "fronts"
	}
	scribble(a.sess.Ins, []impl.Row{rowMark})
	scribble(a.sess.Plan.Kids, planMark())
	return ""
}

func TestWhatIsMadeOfPlansAtWorkSharesNoMemory(t *testing.T) {
	rows, front := []impl.Row{row(0, 1, 7, 7, 2), row(1, 5, 7, 7, 1)}, []impl.Time{at(5, 7), at(7, 5)}
	made := map[string]int{}
	for _, s := range memorySesses() {
		roomy, b, f := roomySess(s), withRoom(rows, rowMark), withRoom(front, mark)
		for name, maker := range sessMakers(b, f) {
			first := maker(roomy)
			want := sessAnswer{copySess(first.sess), slices.Clone(first.told)}
			second := maker(roomy)
			if lists := scribbleAnswer(first); lists != "" {
				t.Fatalf("%s of %s: %s share memory", name, tellSess(s), lists)
			}
			if !sessUntouched(roomy, s) || !untouched(b, rows, rowMark) || !untouched(f, front, mark) {
				t.Fatalf("%s of %s shares memory with what came in", name, tellSess(s))
			}
			for _, other := range []sessAnswer{second, maker(roomy)} {
				if !sameSess(other.sess, want.sess) || !slices.Equal(other.told, want.told) {
					t.Fatalf("two answers of %s of %s share memory", name, tellSess(s))
				}
			}
			if !noSess(want.sess) {
				made[name]++
			}
		}
	}
	for name := range sessMakers(rows, front) {
		if n := made[name]; n < 10 && name != "SessIn, to none" {
			t.Errorf("%s makes only %d", name, n)
		}
	}
}

func TestWhatPlansAtWorkTellSharesNoMemory(t *testing.T) {
	told := 0
	for _, s := range memorySesses() {
		roomy := roomySess(s)
		for _, u := range []impl.Time{at(0, 0), at(1, 2), at(7, 0), at(7, 7)} {
			items, ok := impl.SessAt(roomy, u)
			want := slices.Clone(items)
			scribble(items, item(2, 2, 2))
			if again, _ := impl.SessAt(roomy, u); !sessUntouched(roomy, s) || !slices.Equal(again, want) {
				t.Fatalf("what %s tells at %s shares memory with it", tellSess(s), tell(u))
			}
			if ok && len(want) > 0 {
				told++
			}
		}
	}
	if told < 50 {
		t.Errorf("only %d tell something", told)
	}
}

// Kids may be one list, and Ins, what comes in and Told pieces of one, and the fronts too: what is made of them are lists of their own.
func TestPiecesOfOneListAtWork(t *testing.T) {
	whole, times := manyRows(20, 1), []impl.Time{at(0, 6), at(2, 4), at(4, 2), at(6, 0)}
	a, f := withRoom(whole, rowMark), withRoom(times, mark)
	kids := []impl.Plan{planIn(0), planLess(planIn(1))}
	p := impl.Plan{Kind: impl.PlanBoth, Kids: []impl.Plan{{Kind: impl.PlanBoth, Kids: kids}, {Kind: impl.PlanJoin, Kids: kids}}}
	same := impl.Plan{Kind: impl.PlanBoth, Kids: []impl.Plan{planBoth(kids[0], kids[1]), planJoin(kids[0], kids[1])}}
	fresh, ok := impl.SessNew(p)
	checkSess(t, "SessNew", fresh, ok, sess(same, []impl.Time{at(0, 0)}, nil, nil, nil), true)
	if lists := scribbleAnswer(sessAnswer{sess: fresh}); lists != "" {
		t.Errorf("SessNew: %s share memory", lists)
	}
	s := sess(planBoth(planIn(0), planIn(1)), f[:0], a[:6], a[:3], a[3:6])
	got, told, ok := impl.SessOn(s, f[:0])
	checkSess(t, "SessOn", got, ok, sess(s.Plan, nil, whole[:6], whole[:3], whole[3:6]), true)
	if lists := scribbleAnswer(sessAnswer{got, told}); lists != "" {
		t.Errorf("SessOn: %s share memory", lists)
	}
	s = sess(planIn(0), f[1:2], wantAhead(f[1:2], whole[:8]), a[:8], a[:8])
	got, ok = impl.SessIn(s, 1, a[:0])
	checkSess(t, "SessIn of nothing", got, ok, sess(planIn(0), times[1:2], s.Told, whole[:8], whole[:8]), true)
	if lists := scribbleAnswer(sessAnswer{sess: got}); lists != "" {
		t.Errorf("SessIn of nothing: %s share memory", lists)
	}
	s = sess(planIn(0), []impl.Time{at(0, 0)}, nil, a[:8], a[:8])
	got, ok = impl.SessIn(s, 1, a[8:12])
	checkSess(t, "SessIn", got, ok, sess(planIn(0), []impl.Time{at(0, 0)}, nil, whole[:8], whole[:12]), true)
	if lists := scribbleAnswer(sessAnswer{sess: got}); lists != "" {
		t.Errorf("SessIn: %s share memory", lists)
	}
	if !untouched(a, whole, rowMark) || !untouched(f, times, mark) || !samePlan(kids[0], planIn(0)) || !samePlan(kids[1], planLess(planIn(1))) {
		t.Errorf("%v, %v or %v was written into", a, f, kids)
	}
}
