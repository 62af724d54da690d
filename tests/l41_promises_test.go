package tests

import (
	"slices"
	"strings"
	"testing"

	"loop.example/tideline/impl"
)

// textPlans hands on all plans that are at most three deep, all that have one such Kid, and of those that have two such some, with each of the Kids at each side at least once.
func textPlans(hand func(p impl.Plan)) {
	plans := plansTo(deepMost - 1)
	for i, p := range plans {
		hand(p)
		hand(planLess(p))
		for _, how := range ways {
			hand(planEach(how, p))
		}
		for _, kind := range kinds {
			hand(planSum(kind, p))
		}
		for _, q := range takes(plans, i, 12) {
			hand(planBoth(p, q))
			hand(planJoin(q, p))
		}
	}
}

func TestPromise94APlanIsReadBackFromItsText(t *testing.T) {
	read := 0
	textPlans(func(p impl.Plan) {
		if got, ok := impl.LinesPlan(impl.PlanText(p)); !ok || !samePlan(got, p) {
			t.Fatalf("%s, of %q, is read back as %t, %s", tellPlan(p), impl.PlanText(p), ok, tellPlan(got))
		}
		read++
	})
	if read < 80000 {
		t.Errorf("only %d are read", read)
	}
	full := fullPlan()
	if got, ok := impl.LinesPlan(impl.PlanText(full)); !ok || !samePlan(got, full) {
		t.Errorf("the greatest plan is read back as %t, %s", ok, tellPlan(got))
	}
	// A plan that is not ok has no text, and the empty text is of no plan.
	for _, p := range badPlans() {
		if got, ok := impl.LinesPlan(impl.PlanText(p)); ok || !samePlan(got, impl.Plan{}) {
			t.Errorf("%s is read back as %s", tellPlan(p), tellPlan(got))
		}
	}
}

// A line with a plan's text begins that plan: what it makes then is what the plan makes.
func TestPromise94OfLines(t *testing.T) {
	for i, p := range somePlans() {
		rows := []impl.Row{row(i%keys, i%7, 0, 0, 1), row(i%keys, 12, 1, 0, 2)}
		want, ok := wantPlanFlow(p, [][]impl.Row{rows[:1], rows[1:]})
		if !ok {
			t.Fatalf("%s makes too much", tellPlan(p))
		}
		s := sess(p, []impl.Time{at(0, 0)}, nil, rows[:1], rows[1:])
		_, told := wantOnAnswer(s, nil)
		text := "plan " + impl.PlanText(p) + "\nin 0 " + inWords(rows[0]) + "\nin 1 " + inWords(rows[1]) + "\non"
		if got := impl.LinesRun(text); got != "plan\nin\nin\n"+told+"\n" {
			t.Fatalf("%q is answered %q, and %s makes %v", text, got, tellPlan(p), want)
		}
	}
}

func TestPromise95APlanHasJustOneText(t *testing.T) {
	texts := map[string]int{}
	check := func(text string) {
		p, ok := impl.LinesPlan(text)
		if ok != (impl.PlanText(p) == text && text != "") || ok != impl.PlanOk(p) {
			t.Fatalf("%q is read as %t, %s, whose text is %q", text, ok, tellPlan(p), impl.PlanText(p))
		}
		if ok {
			texts[text]++
		}
	}
	bytes := []byte(" -+012378(\t\n\x00\xffines")
	for i, p := range somePlans() {
		check(impl.PlanText(p))
		nearTexts(impl.PlanText(p), bytes, check)
		if i%20 == 0 {
			nearTexts(impl.PlanText(p), allBytes(), check)
		}
		for _, other := range otherTexts(impl.PlanText(p)) {
			if got, ok := impl.LinesPlan(other); ok {
				t.Fatalf("%q is read as %s, beside %q", other, tellPlan(got), impl.PlanText(p))
			}
		}
	}
	for n := 1; n <= 4; n++ {
		wordTexts(append(kindWords(), "", "0", "in", "in2", "sum", "each8"), n, check)
	}
	if len(texts) < 3500 {
		t.Errorf("only %d texts are of plans", len(texts))
	}
}

// otherTexts are other ways of writing what a text says, as someone might, who knows no better.
func otherTexts(text string) []string {
	words := strings.Split(text, " ")
	others := []string{
		" " + text, text + " ", text + "\n", text + "\r\n", text + "\x00", "\ufeff" + text, "(" + text + ")", "plan " + text, text + " " + text, text + " in0",
		strings.ToUpper(text), strings.ToUpper(text[:1]) + text[1:], strings.ReplaceAll(text, "0", "-0"), strings.ReplaceAll(text, "0", "00"), strings.ReplaceAll(text, "1", "01"), strings.ReplaceAll(text, "1", "+1"), strings.ReplaceAll(text, "n", "n "),
		strings.ReplaceAll(text, "both", "both0"), strings.ReplaceAll(text, "less", "less0"), strings.ReplaceAll(text, "join", "join0"),
	}
	for _, between := range []string{"  ", "\t", ",", "\n", "\u00a0", "", " \t", "\x00"} {
		others = append(others, strings.Join(words, between))
		for i := 1; i < len(words); i++ {
			others = append(others, strings.Join(words[:i], " ")+between+strings.Join(words[i:], " "))
		}
	}
	return slices.DeleteFunc(others, func(other string) bool { return other == text })
}

// answersOf are what each line of a text is answered.
func answersOf(t *testing.T, lines []string) []string {
	t.Helper()
	answers := strings.Split(impl.LinesRun(textOf(lines)), "\n")
	if last := len(answers) - 1; last != len(lines) || answers[last] != "" {
		t.Fatalf("%q is answered %q", lines, answers)
	}
	return answers[:len(lines)]
}

func TestPromise96ATextsFirstLinesSayWhatTheySayWithoutTheRest(t *testing.T) {
	told := 0
	for i, lines := range lineTexts(700) {
		whole := impl.LinesRun(textOf(lines))
		answers := answersOf(t, lines)
		for n := range len(lines) + 1 {
			text, want := textOf(lines[:n]), textOf(answers[:n])
			if got := impl.LinesRun(text); got != want || !strings.HasPrefix(whole, got) {
				t.Fatalf("%q is answered %q, and with the rest %q", text, got, whole)
			}
			// The newline behind the last line does not matter, nor does what comes behind it.
			if got := impl.LinesRun(strings.TrimSuffix(text, "\n")); got != want {
				t.Fatalf("%q, without its last newline, is answered %q", text, got)
			}
			rest := []string{"on", "plan in1", "x", "in 0 0 0 7 7 1", " "}[i%5]
			if got := impl.LinesRun(text + rest); !strings.HasPrefix(got, want) || strings.Count(got, "\n") != n+1 {
				t.Fatalf("%q, with %q behind it, is answered %q", text, rest, got)
			}
		}
		told += strings.Count(whole, "=")
	}
	if told < 2000 {
		t.Errorf("only %d are told", told)
	}
}

func TestPromise97LinesWithoutWordsSayNothing(t *testing.T) {
	for n := range linesMost + 1 {
		if got := impl.LinesRun(strings.Repeat("\n", n)); got != "" {
			t.Fatalf("%d newlines are answered %q", n, got)
		}
	}
	s := steps(97)
	for _, lines := range lineTexts(700) {
		want := impl.LinesRun(textOf(lines))
		for place := range len(lines) + 1 {
			// Some between two lines, at the beginning and at the end.
			text := textOf(lines[:place]) + strings.Repeat("\n", 1+s.below(90)) + textOf(lines[place:])
			if got := impl.LinesRun(text); got != want {
				t.Fatalf("%q is answered %q, not %q", text, got, want)
			}
		}
		text := ""
		for _, line := range lines {
			text += strings.Repeat("\n", s.below(2)) + line + "\n"
		}
		if got := impl.LinesRun(text + "\n\n"); got != want {
			t.Fatalf("%q is answered %q, not %q", text, got, want)
		}
	}
}

// isNone says whether an answer is to a line that was not done.
func isNone(answer string) bool {
	return answer == "no" || answer == "what"
}

// Without a line that is not done all others are answered as they were: those that are none whatever is ahead, and those that cannot be there.
func TestPromise98ALineThatIsNoneChangesNothing(t *testing.T) {
	left := map[string]int{}
	for _, lines := range lineTexts(700) {
		answers := answersOf(t, lines)
		var done, said []string
		for i, answer := range answers {
			if !isNone(answer) {
				done, said = append(done, lines[i]), append(said, answer)
				continue
			}
			without := slices.Delete(slices.Clone(lines), i, i+1)
			want := slices.Delete(slices.Clone(answers), i, i+1)
			if got := answersOf(t, without); !slices.Equal(got, want) {
				t.Fatalf("%q, without %q, is answered %q, not %q", without, lines[i], got, want)
			}
			word, _, _ := strings.Cut(lines[i], " ")
			left[answer+" "+word]++
		}
		if got := answersOf(t, done); !slices.Equal(got, said) {
			t.Fatalf("%q, without all that are none, is answered %q, not %q", done, got, said)
		}
	}
	for _, word := range []string{"no in", "no on", "no at", "no plan", "no what", "what in", "what on", "what at"} {
		if left[word] < 15 {
			t.Errorf("%d lines are answered %s", left[word], word)
		}
	}
}

func TestPromise98OfAllLinesThatAreNone(t *testing.T) {
	none := append(noLines(), whatLines()...)
	for i, lines := range lineTexts(1500) {
		answers := answersOf(t, lines)
		for _, line := range takes(none, i, 5) {
			place := (i*7 + len(line)) % (len(lines) + 1)
			with := slices.Insert(slices.Clone(lines), place, line)
			got := answersOf(t, with)
			if !isNone(got[place]) || !slices.Equal(slices.Delete(got, place, place+1), answers) {
				t.Fatalf("%q, with %q, is answered %q, not %q", with, line, got, answers)
			}
		}
	}
}

// A line that cannot be done where the plan at work is in the midst of its work: what it tells is as it was, at all times, and all that could come can still come.
func TestPromise98InTheMidst(t *testing.T) {
	ahead := "plan sum1 both in0 in1\nin 0 1 2 0 0 3\nin 1 1 5 2 2 1\nin 1 2 7 1 1 -4\non 0 3 2 1\nin 0 1 9 2 1 2\n"
	behind := "at 0 2\nat 1 2\nat 7 0\nat 2 1\nin 0 3 3 0 3 1\nin 1 0 0 0 2 1\non 0 4 3 1\nat 2 3\non\nat 7 7\n"
	want, said := impl.LinesRun(ahead+behind), impl.LinesRun(ahead)
	rest := strings.TrimPrefix(want, said)
	if want != wantLinesRun(ahead+behind) || strings.Count(rest, "no\n") != 2 || strings.Count(rest, "=") < 7 {
		t.Fatalf("it is answered %q", want)
	}
	lines := slices.Concat(noLines(), whatLines(), []string{
		"in 0 1 2 0 0 1", "in 0 1 2 1 2 1", "in 1 1 2 7 0 1", "in 2 1 2 7 7 1", "in -1 1 2 7 7 1", "in 0 4 2 7 7 1", "in 0 -1 2 7 7 1", "in 0 1 -1 7 7 1", "in 0 1 2 8 7 1", "in 0 1 2 7 8 1", "in 0 1 2 7 7 0",
		"on 0 0", "on 0 2", "on 0 3 2 0", "on 2 1 0 3", "on 7 7 7 7", "on 0 3 2 1 3 0", "on 8 8", "on -1 7", "on 99 99",
		"at 0 3", "at 2 1", "at 7 7", "at 8 0", "at 0 8", "at -1 0", "at 99 99",
	})
	for _, line := range lines {
		got := impl.LinesRun(ahead + line + "\n" + behind)
		if got != said+"no\n"+rest && got != said+"what\n"+rest {
			t.Errorf("with %q it is answered %q, not %q", line, got, want)
		}
	}
}

func TestPromise99BehindANewPlanAllIsAsIfNothingHadBeenAhead(t *testing.T) {
	texts, plans := lineTexts(1500), somePlans()
	told := 0
	for i, lines := range texts {
		p := plans[i%len(plans)]
		if i%4 == 0 {
			p = planIn(0)
		}
		other := texts[(i*31+7)%len(texts)]
		ahead, behind := lines[:min(len(lines), 25)], other[:min(len(other), 25)]
		plan := "plan " + impl.PlanText(p) + "\n"
		text := textOf(ahead) + plan + textOf(behind)
		if len(text) > linesMost {
			t.Fatalf("%q has %d bytes", text, len(text))
		}
		want := impl.LinesRun(plan + textOf(behind))
		if got := impl.LinesRun(text); got != impl.LinesRun(textOf(ahead))+want {
			t.Fatalf("%q is answered %q, and behind the plan it should be %q", text, got, want)
		}
		// The first plan there is is the one with which a text begins.
		if samePlan(p, planIn(0)) && want != "plan\n"+impl.LinesRun(textOf(behind)) {
			t.Fatalf("%q is answered %q behind %q", textOf(behind), want, plan)
		}
		told += strings.Count(want, "=")
	}
	if told < 2000 {
		t.Errorf("only %d are told", told)
	}
}

// The same plan once more begins anew, too, also where all is settled.
func TestPromise99OfTheSamePlan(t *testing.T) {
	for _, p := range somePlans() {
		plan := "plan " + impl.PlanText(p) + "\n"
		work := "in 0 1 2 0 0 3\nin 1 1 5 2 2 1\non 0 3 2 1\nat 0 2\nin 0 1 9 2 1 2\non\nat 7 7\n"
		once := impl.LinesRun(plan + work)
		if got := impl.LinesRun(strings.Repeat(plan+work, 5)); got != strings.Repeat(once, 5) {
			t.Fatalf("%s is answered %q, and once %q", tellPlan(p), got, once)
		}
	}
}
