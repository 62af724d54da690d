package tests

import (
	"fmt"
	"regexp"
	"strconv"
	"strings"

	"loop.example/tideline/impl"
)

// The model of lines tells lines apart by patterns of whole lines, and has the model of plans at work do them. That of texts of plans goes along their words from the last to the first, and puts together what lies there.

const linesMost = 2000

const numberForm = `(?:0|-?[1-9][0-9]?)`

var (
	planForm    = regexp.MustCompile(`(?s)\Aplan (.+)\z`)
	numbersForm = regexp.MustCompile(`(?s)\A[^ ]*(?: ` + numberForm + `)*\z`)
	inForm      = regexp.MustCompile(`\Ain(?: ` + numberForm + `){6}\z`)
	onForm      = regexp.MustCompile(`\Aon(?: ` + numberForm + ` ` + numberForm + `)*\z`)
	atForm      = regexp.MustCompile(`\Aat(?: ` + numberForm + `){2}\z`)
	kindForm    = regexp.MustCompile(`\A(?:in[01]|each[1-7]|both|less|join|sum[1-3])\z`)
)

// wantKind is the plan of a word, without Kids, and how many of these it has; fewer than none, if it is no word.
func wantKind(word string) (impl.Plan, int) {
	if !kindForm.MatchString(word) {
		return impl.Plan{}, -1
	}
	for kind := 1; kind <= 6; kind++ {
		kids, _, last, letters := wantShape(kind)
		if !strings.HasPrefix(word, letters) {
			continue
		}
		num := 0
		if last > 0 {
			num = int(word[len(word)-1] - '0')
		}
		return impl.Plan{Kind: kind, Num: num}, kids
	}
	return impl.Plan{}, -1
}

// wantLinesPlan is the plan that a text is of, and whether it is of one.
func wantLinesPlan(text string) (impl.Plan, bool) {
	words := strings.Split(text, " ")
	var lying []impl.Plan
	for i := len(words) - 1; i >= 0; i-- {
		p, kids := wantKind(words[i])
		if kids < 0 || kids > len(lying) {
			return impl.Plan{}, false
		}
		for range kids {
			last := len(lying) - 1
			p.Kids = append(p.Kids, lying[last])
			lying = lying[:last]
		}
		lying = append(lying, p)
	}
	if len(lying) != 1 || !wantPlanOk(lying[0], deepMost) {
		return impl.Plan{}, false
	}
	return lying[0], true
}

// wantNumbers are the numbers of a line all of whose words but the first are such.
func wantNumbers(line string) []int {
	var nums []int
	for _, word := range strings.Fields(line)[1:] {
		n, _ := strconv.Atoi(word)
		nums = append(nums, n)
	}
	return nums
}

// wantAnswer is what a line that is not empty is answered, and the plan at work behind it.
func wantAnswer(s impl.Sess, line string) (impl.Sess, string) {
	switch {
	case planForm.MatchString(line):
		if p, ok := wantLinesPlan(line[len("plan "):]); ok {
			return sess(p, []impl.Time{at(0, 0)}, nil, nil, nil), "plan"
		}
		return s, "no"
	case !numbersForm.MatchString(line):
		return s, "no"
	case inForm.MatchString(line):
		n := wantNumbers(line)
		if next, ok := wantSessIn(s, n[0], []impl.Row{row(n[1], n[2], n[3], n[4], n[5])}); ok {
			return next, "in"
		}
		return s, "no"
	case onForm.MatchString(line):
		return wantOnAnswer(s, wantNumbers(line))
	case atForm.MatchString(line):
		n := wantNumbers(line)
		return s, wantAtAnswer(s, at(n[0], n[1]))
	}
	return s, "what"
}

func wantOnAnswer(s impl.Sess, nums []int) (impl.Sess, string) {
	var f []impl.Time
	for i := 0; i < len(nums); i += 2 {
		f = append(f, at(nums[i], nums[i+1]))
	}
	next, came, ok := wantSessOn(s, f)
	if !ok {
		return s, "no"
	}
	told := "told"
	for _, r := range came {
		told += fmt.Sprintf(" %d:%d@%d,%d=%d", r.Key, r.Val, r.At.A, r.At.B, r.Diff)
	}
	return next, told
}

func wantAtAnswer(s impl.Sess, u impl.Time) string {
	items, ok := wantSessAt(s, u)
	if !ok {
		return "no"
	}
	told := "there"
	for _, x := range items {
		told += fmt.Sprintf(" %d:%d=%d", x.Key, x.Val, x.Count)
	}
	return told
}

// wantLinesRun is what a text is answered.
func wantLinesRun(text string) string {
	if len(text) > linesMost {
		return "too long\n"
	}
	s := sess(planIn(0), []impl.Time{at(0, 0)}, nil, nil, nil)
	told := ""
	for _, line := range strings.Split(text, "\n") {
		if line == "" {
			continue
		}
		var answer string
		s, answer = wantAnswer(s, line)
		told += answer + "\n"
	}
	return told
}

// lineMaker makes lines that seem to be in no order; it goes along with the front, so that most of them can be done.
type lineMaker struct {
	steps steps
	kind  kind
	plans []impl.Plan
	none  [2][]string
	front []impl.Time
	most  int
}

// lineTexts are texts of lines, as lists of these, none of them empty: plans of all kinds, rows of few keys and values, so that much comes together, and of many, fronts that move on, and do not, and now and then a line that is none.
func lineTexts(n int) [][]string {
	m := lineMaker{steps: 41, none: [2][]string{noLines(), whatLines()}}
	for i, p := range somePlans() {
		m.plans = append(m.plans, p, plansTo(2)[i%32])
	}
	kinds := []kind{{1, 2, 3, 1}, {2, 3, 4, 2}, {4, 12, 8, 9}, {2, 100, 8, 99}}
	var texts [][]string
	for i := range n {
		m.kind, m.front, m.most = kinds[i%len(kinds)], []impl.Time{at(0, 0)}, 1
		var lines []string
		if i%5 > 0 {
			lines = append(lines, m.plan())
		}
		// Some room is left, so that a test can put something between.
		for size := 100; size <= linesMost-200 && len(lines) <= 12+i%40; {
			line := m.line()
			size += len(line) + 1
			lines = append(lines, line)
		}
		texts = append(texts, lines)
	}
	return texts
}

func (m *lineMaker) line() string {
	n := m.steps.below(60)
	if len(m.front) == 0 && n < 28 {
		n += 30
	}
	switch {
	case n < 28:
		return m.in()
	case n < 36:
		return m.on()
	case n < 50:
		return m.at()
	case n < 55:
		none := m.none[n%2]
		return none[m.steps.below(len(none))]
	case n < 58 && len(m.front) == 0 || n == 55:
		return m.plan()
	case n == 56:
		m.front = nil
		return "on"
	}
	return fmt.Sprintf("at %d %d", m.steps.below(side), m.steps.below(side))
}

func (m *lineMaker) plan() string {
	m.front, m.most = []impl.Time{at(0, 0)}, 1
	return "plan " + wantText(m.plans[m.steps.below(len(m.plans))])
}

// in is a line with a row, which is mostly not ahead of the front.
func (m *lineMaker) in() string {
	r := m.steps.rows(m.kind, 1)[0]
	if n := m.steps.below(6 * max(len(m.front), 1)); n >= len(m.front) && len(m.front) > 0 {
		u := m.front[n%len(m.front)]
		r.At = at(max(r.At.A, u.A), max(r.At.B, u.B))
	}
	return fmt.Sprintf("in %d %s", m.steps.below(insMost), inWords(r))
}

// at is a line with a time, which is settled, if one is found soon.
func (m *lineMaker) at() string {
	u := at(m.steps.below(m.most), m.steps.below(m.most))
	for range 5 {
		if wantSettled(m.front, u) {
			break
		}
		u = at(m.steps.below(m.most), m.steps.below(m.most))
	}
	return fmt.Sprintf("at %d %d", u.A, u.B)
}

// on is a line with a front, which mostly moves on, at first not far, so that something is left that may come.
func (m *lineMaker) on() string {
	m.most = min(m.most+1, side)
	var times []impl.Time
	for range 1 + m.steps.below(3) {
		times = append(times, at(m.steps.below(m.most), m.steps.below(m.most)))
	}
	f := impl.FrontOf(times)
	if m.steps.below(6) > 0 && len(m.front) > 0 {
		f = impl.FrontBoth(f, m.front)
	}
	if wantOn(m.front, f) {
		m.front = f
	}
	return onLine(f)
}

// inWords are the numbers of a row as they stand in a line.
func inWords(r impl.Row) string {
	return fmt.Sprintf("%d %d %d %d %d", r.Key, r.Val, r.At.A, r.At.B, r.Diff)
}

func onLine(f []impl.Time) string {
	line := "on"
	for _, u := range f {
		line += fmt.Sprintf(" %d %d", u.A, u.B)
	}
	return line
}

// textOf is lines as a text, each with a newline behind.
func textOf(lines []string) string {
	text := ""
	for _, line := range lines {
		text += line + "\n"
	}
	return text
}

// oddWords are words that are no numbers of a line.
func oddWords() []string {
	return []string{
		"", "-", "+", "--", "--1", "+1", "+0", "-0", "-+1", "00", "01", "-01", "-00", "000", "007", "010", "0-1", "1-", "1-1", "100", "-100", "101", "999", "-999", "0100", "1000", "65536", "4294967296", "18446744073709551616", "-9223372036854775809",
		"1.0", "1.", ".1", "1e1", "1,0", "0x1", "0b1", "0o7", "1_0", "1x", "x1", "x", "O", "l", "1;", "1:", "'1'", "1=1", "nil", "in", "on", "at", "plan",
		"\t", "\t1", "1\t", "1\r", "\r1", "1\v", "1\f", "1\x00", "\x00", "\x001", "\x7f", "\x80", "\xb9", "\xff", "1\xff", "\xff1", "/", ":", "1/", "1:",
		"\u0661", "\uff11", "\u00b2", "\u22121", "\u00a01", "1\u2028", "\u20031",
	}
}

// noLines are lines that are answered no, whatever is ahead of them.
func noLines() []string {
	lines := []string{
		"plan  ", "plan  in0", "plan in0 ", "plan in", "plan in2", "plan in-1", "plan in0 in1", "plan IN0", "plan 0", "plan 1 2", "plan plan", "plan plan in0", "plan both in0", "plan less less less less in0", "plan in0\r", "plan in0\t", "plan \x80", "plan in00",
		"   ", " on", " in0", " plan in0", "  plan in0", "on  ", "at 0 0 ", " at 0 0", "at  0 0", "at 0  0", "at 0 0  ", "in 0 1 2 0 0 1 ", " in 0 1 2 0 0 1", "in  0 1 2 0 0 1", "on 0 0 ", " on 0 0", "on  0 0",
		"what is", "PLAN in0", "Plan in0", "plans in0", "plan\tin0 in0", "plan\rless in0", "in0 in1", "both in0 in1", "// on", "told 1:1@0,0=1", "too long",
	}
	for _, word := range oddWords() {
		lines = append(lines, " "+word, word+" "+word, "plan "+word, "what "+word, "what 1 "+word, "what "+word+" 1",
			"at "+word, "at "+word+" 0", "at 0 "+word, "at 0 0 "+word,
			"on "+word, "on "+word+" 0", "on 0 "+word, "on 0 1 1 "+word,
			"in "+word, "in "+word+" 1 2 0 0 1", "in 0 "+word+" 2 0 0 1", "in 0 1 "+word+" 0 0 1", "in 0 1 2 "+word+" 0 1", "in 0 1 2 0 "+word+" 1", "in 0 1 2 0 0 "+word, "in 0 1 2 0 0 1 "+word)
	}
	return lines
}

// whatLines are lines that are answered what, whatever is ahead of them.
func whatLines() []string {
	lines := []string{
		"plan", "in", "at", "at 0", "at 0 0 0", "at 1 2 3 4", "on 0", "on -1", "on 99", "on 0 0 0", "on 0 1 1 0 2",
		"in 0", "in 0 0", "in 0 1 2 0 0", "in 0 1 2 0 0 1 0", "in 0 1 2 0 0 1 0 1 2 0 0 1", "in -1", "at -99",
		"in0", "in1", "in0 1", "on0 0", "at0 0", "in,0", "on1", "both", "plan0", "plan-1", "plan\tin0", "plan\rin0", "plan\x00in0",
		"on\t", "on\r", "\ron", "\ton", "on\v", "on\x00", "\x00on", "on\xff", "\xffon", "on\u00a0", "\ufeffon", "on\t0 0", "at\t0 0", "at\t0\t0", "in\t0 1 2 0 0 1", "at\r 0 0", "plan\r 1", "on\u20280 0",
		"ON", "On", "oN", "AT 0 0", "At 0 0", "IN 0 1 2 0 0 1", "In 0 1 2 0 0 1", "PLAN", "Plan 1", "pLAN 0 0",
		"o", "n", "onn", "oon", "i", "inn", "a", "t", "att", "pla", "plann", "lan", "no", "told", "there", "told 1", "too", "what", "what 1", "what 0 0", "what 0 1 2 0 0 1",
		"0", "1 2", "0 0", " 0", " 0 0", " -1 2", " 0 1 2 0 0 1", "-", "-1", "-1 -1", "0 1 2 0 0 1", "0 0 1 2 0 0 1", "\t", "\r", "\x00", "\x7f", "\x80", "\xff", "\xff 1", "\x00 0 0", "\u00f6n", "\uff4f\uff4e", "\u043en",
	}
	for _, first := range []string{"in", "at", "on"} {
		for n := range 15 {
			if first == "in" && n != 6 || first == "at" && n != 2 || first == "on" && n%2 > 0 {
				lines = append(lines, first+strings.Repeat(" 0", n))
			}
		}
	}
	return lines
}
