package tests

import (
	"fmt"
	"slices"
	"strconv"
	"strings"
	"sync"
	"testing"

	"loop.example/tideline/impl"
)

func TestLinesHaveTheirLimit(t *testing.T) {
	if impl.LinesMax != linesMost {
		t.Error(impl.LinesMax)
	}
}

// fullPlan is a plan with as many Kids in Kids as can be, which has the longest text.
func fullPlan() impl.Plan {
	full := planIn(1)
	for range deepMost - 1 {
		full = planJoin(full, full)
	}
	return full
}

func TestLinesPlanOfAFew(t *testing.T) {
	in0, in1 := planIn(0), planIn(1)
	for text, want := range map[string]impl.Plan{
		"in0":                         in0,
		"in1":                         in1,
		"each1 in0":                   planEach(1, in0),
		"each7 in1":                   planEach(7, in1),
		"both in0 in1":                planBoth(in0, in1),
		"both in1 in0":                planBoth(in1, in0),
		"less in1":                    planLess(in1),
		"join in0 in0":                planJoin(in0, in0),
		"sum1 in0":                    planSum(1, in0),
		"sum2 in0":                    planSum(2, in0),
		"sum3 in1":                    planSum(3, in1),
		"both less in0 in1":           planBoth(planLess(in0), in1),
		"both in0 less in1":           planBoth(in0, planLess(in1)),
		"join both in0 in1 in0":       planJoin(planBoth(in0, in1), in0),
		"join in0 both in1 in0":       planJoin(in0, planBoth(in1, in0)),
		"less less less in0":          planLess(planLess(planLess(in0))),
		"sum1 each2 less in1":         planSum(1, planEach(2, planLess(in1))),
		"both each3 in0 less in1":     planBoth(planEach(3, in0), planLess(in1)),
		"less join sum2 in1 sum3 in0": planLess(planJoin(planSum(2, in1), planSum(3, in0))),
		"join join join in1 in1 join in1 in1 join join in1 in1 join in1 in1": fullPlan(),
	} {
		if got, ok := impl.LinesPlan(text); !ok || !samePlan(got, want) {
			t.Errorf("%q is %t, %s", text, ok, tellPlan(got))
		}
		if got, ok := wantLinesPlan(text); !ok || !samePlan(got, want) {
			t.Errorf("the model says that %q is %t, %s", text, ok, tellPlan(got))
		}
	}
}

func checkNoPlan(t *testing.T, text string) {
	t.Helper()
	if got, ok := impl.LinesPlan(text); ok || !samePlan(got, impl.Plan{}) {
		t.Errorf("%q is %t, %s", text, ok, tellPlan(got))
	}
}

func TestLinesPlanOfTextsThatAreNone(t *testing.T) {
	for _, text := range []string{
		"", " ", "  ", "\n", "0", "1", "x", "plan", "plan in0",
		"in", "in2", "in9", "in-1", "in-0", "in+0", "in00", "in01", "in10", "in 0", "in0x", "xin0", "in0.", "(in0)", "in(0)", "in0,", "in0;", "in0\n", "\nin0", "in0\r", "in0\t", "in0\x00", "\x00in0", "in0\xff", "in\xff", "in\u0660", "in\uff10", "\ufeffin0",
		" in0", "in0 ", "in0  ", "in0 in0", "in0 in1", "in0 x", "in0 \n", "IN0", "In0", "iN0", "i0", "n0", "inn0",
		"each in0", "each0 in0", "each8 in0", "each-1 in0", "each+1 in0", "each01 in0", "each10 in0", "each11 in0", "each1", "each1 ", "each1in0", "each1  in0", "each1\tin0", "each1\nin0", "each1 in0 in0", "each1 in2", "each 1 in0", "Each1 in0", "each1 (in0)", "each1(in0)", "each7 each8 in0",
		"both", "both ", "both in0", "both in0 ", "both in0 in1 in0", "both  in0 in1", "both in0  in1", "both in0 in1 ", " both in0 in1", "both0 in0 in1", "both1 in0 in1", "both in0, in1", "both in0in1", "both(in0 in1)", "both in0\tin1", "BOTH in0 in1", "both less in0", "both in0 less",
		"less", "less ", "less in0 in1", "less0 in0", "less-1 in0", "less1 in0", "-in0", "less -in0", "less", "less less", "less less less less in0", "les in0", "lesss in0",
		"join in0", "join in1 in0 in1", "join0 in0 in1", "join1 in0 in1", "joinin0 in1", "Join in0 in1", "join in0 join in1 join in0 join in1 in0",
		"sum in0", "sum0 in0", "sum4 in0", "sum7 in0", "sum-1 in0", "sum12 in0", "sum03 in0", "sum1", "sum1 in0 in1", "sum1 sum1 sum1 sum1 in0", "sum3 in3", "sun1 in0", "sum\xb9 in0",
		"in0\x00in1", "both in0\x00in1", "both\x00in0 in1", "both in0\u00a0in1", "1.0()", "{1 0 []}",
	} {
		checkNoPlan(t, text)
		if got, ok := wantLinesPlan(text); ok {
			t.Errorf("the model says that %q is %s", text, tellPlan(got))
		}
	}
	if full := wantText(fullPlan()); len(full) != 66 {
		t.Errorf("%q has %d bytes", full, len(full))
	}
}

// What is deeper than can be is no text, however deep, and wherever it is so.
func TestLinesPlanAsDeepAsCanBeAndDeeper(t *testing.T) {
	for turn := range 14 {
		for _, deep := range []int{1, 2, 3, 4, 5, 6, 7, 8, 50, 200} {
			p := chain(deep, turn)
			if deep > deepMost {
				checkNoPlan(t, wantText(p))
			} else if got, ok := impl.LinesPlan(wantText(p)); !ok || !samePlan(got, p) {
				t.Errorf("%q is %t, %s", wantText(p), ok, tellPlan(got))
			}
		}
	}
	full := fullPlan()
	for _, p := range []impl.Plan{planLess(full), planEach(1, full), planSum(3, full), planBoth(full, planIn(0)), planJoin(planIn(0), full)} {
		checkNoPlan(t, wantText(p))
	}
}

// No plan has a text of nearly so many bytes, so those at the limit are none, too.
func TestLinesPlanOfTextsOfManyBytes(t *testing.T) {
	for _, size := range []int{67, 1999, linesMost, linesMost + 1, 100000, 3000000} {
		for _, piece := range []string{"in0 ", " ", "less ", "both in0 ", "x", "0", "\x00", "\n", "in0", "each1 "} {
			many := strings.Repeat(piece, size/len(piece)+1)
			checkNoPlan(t, many[:size])
			checkNoPlan(t, "in0"+many[:size-3])
			checkNoPlan(t, many[:size-3]+"in0")
		}
	}
}

// kindWords are all words of plans.
func kindWords() []string {
	words := []string{"in0", "in1", "both", "less", "join"}
	for _, how := range ways {
		words = append(words, fmt.Sprintf("each%d", how))
	}
	for _, kind := range kinds {
		words = append(words, fmt.Sprintf("sum%d", kind))
	}
	return words
}

// wordTexts hands on all texts of so many of these words.
func wordTexts(words []string, n int, hand func(text string)) {
	if n == 1 {
		for _, word := range words {
			hand(word)
		}
		return
	}
	wordTexts(words, n-1, func(text string) {
		for _, word := range words {
			hand(text + " " + word)
		}
	})
}

func checkText(t *testing.T, text string) bool {
	t.Helper()
	want, wantOk := wantLinesPlan(text)
	got, ok := impl.LinesPlan(text)
	if ok != wantOk || !samePlan(got, want) {
		t.Fatalf("%q is %t, %s, not %t, %s", text, ok, tellPlan(got), wantOk, tellPlan(want))
	}
	return ok
}

// A plan of so many words has, behind its first, a plan of one word less (11 first words), or two that have as many together (2 first words).
func TestLinesPlanOfAllFewWords(t *testing.T) {
	plans := []int{0, 2}
	for n := 1; n <= 4; n++ {
		read := 0
		wordTexts(kindWords(), n, func(text string) {
			if checkText(t, text) {
				read++
			}
		})
		if read != plans[n] {
			t.Errorf("%d texts of %d words are read, not %d", read, n, plans[n])
		}
		more := 11 * plans[n]
		for first := 1; first < n; first++ {
			more += 2 * plans[first] * plans[n-first]
		}
		plans = append(plans, more)
	}
	for n := 5; n <= 7; n++ {
		wordTexts([]string{"in0", "each7", "both", "join", "sum1"}, n, func(text string) { checkText(t, text) })
	}
}

// nearTexts hands on all texts that have a byte more, less, or another one, or two side by side the other way round.
func nearTexts(text string, bytes []byte, hand func(near string)) {
	for i := range len(text) + 1 {
		for _, b := range bytes {
			hand(text[:i] + string([]byte{b}) + text[i:])
			if i < len(text) {
				hand(text[:i] + string([]byte{b}) + text[i+1:])
			}
		}
		if i < len(text) {
			hand(text[:i] + text[i+1:])
			hand(text[:i])
			hand(text[i:])
		}
		if i+1 < len(text) {
			hand(text[:i] + string([]byte{text[i+1], text[i]}) + text[i+2:])
		}
	}
}

func allBytes() []byte {
	var all []byte
	for b := range 256 {
		all = append(all, byte(b))
	}
	return all
}

func TestLinesPlanOfTextsThatAreNearlyOne(t *testing.T) {
	read, none := 0, 0
	check := func(text string) {
		if checkText(t, text) {
			read++
		} else {
			none++
		}
	}
	for i, p := range somePlans() {
		bytes := []byte(" -+0123789(),\t\n\r\x00\xffinesu")
		if i%40 == 0 {
			bytes = allBytes()
		}
		nearTexts(wantText(p), bytes, check)
	}
	if read < 2000 || none < 100000 {
		t.Errorf("%d are read, %d are not", read, none)
	}
}

func checkRun(t *testing.T, text string, want string) {
	t.Helper()
	if got := impl.LinesRun(text); got != want {
		t.Errorf("%q is answered %q, not %q", text, got, want)
	}
	if model := wantLinesRun(text); model != want {
		t.Errorf("%q: the model says %q, not %q", text, model, want)
	}
}

func TestLinesRunOfAFew(t *testing.T) {
	for _, c := range []struct{ text, want string }{
		{"", ""},
		{"\n", ""},
		{"\n\n\n", ""},
		{"on", "told\n"},
		{"on\n", "told\n"},
		{"on\n\n", "told\n"},
		{"\non", "told\n"},
		{"\n\non\n\n\non\n\n", "told\ntold\n"},
		{"at 0 0", "no\n"},
		{"on 0 0\nat 0 0", "told\nno\n"},
		{"on 0 1\nat 0 0\nat 1 0\nat 7 0\nat 0 1\nat 1 1", "told\nthere\nthere\nthere\nno\nno\n"},
		{"on 0 1 1 0\nat 0 0\nat 0 1\nat 1 0", "told\nthere\nno\nno\n"},
		{"on 0 7 1 6 2 5 3 4 4 3 5 2 6 1 7 0\nat 3 3\nat 3 4", "told\nthere\nno\n"},
		{"on 1 0 0 1", "no\n"},
		{"on 1 1 1 1", "no\n"},
		{"on 0 0 1 1", "no\n"},
		{"on 7 7\non 7 7\nat 7 6\nat 7 7", "told\ntold\nthere\nno\n"},
		{"on 8 0\non 0 8\non -1 0\non 0 -1\non 99 99", "no\nno\nno\nno\nno\n"},
		{"on\nat 7 7\nat 8 7\nat 7 8\nat -1 0\non\non 7 7\nin 0 0 0 7 7 1", "told\nthere\nno\nno\nno\ntold\nno\nno\n"},
		{"in 0 1 2 3 4 5\non\nat 3 4\nat 3 3\nat 7 7", "in\ntold 1:2@3,4=5\nthere 1:2=5\nthere\nthere 1:2=5\n"},
		{"in 1 1 2 3 4 5\non\nat 7 7", "in\ntold\nthere\n"},
		{"in 0 3 99 7 7 99\nin 0 0 0 0 0 -99\non\nat 7 7", "in\nin\ntold 0:0@0,0=-99 3:99@7,7=99\nthere 0:0=-99 3:99=99\n"},
		{"in 0 1 10 0 0 10\nin 0 1 9 0 0 9\nin 0 1 9 0 0 1\non\nat 0 0", "in\nin\nin\ntold 1:9@0,0=10 1:10@0,0=10\nthere 1:9=10 1:10=10\n"},
		{"in 0 1 2 0 0 1\nin 0 1 2 0 0 -1\non\nat 0 0", "in\nin\ntold\nthere\n"},
		{"in 0 1 2 0 0 1\nin 0 1 2 0 1 -1\non\nat 0 0\nat 0 1", "in\nin\ntold 1:2@0,0=1 1:2@0,1=-1\nthere 1:2=1\nthere\n"},
		{"in 2 1 2 0 0 1\nin -1 1 2 0 0 1\nin 99 1 2 0 0 1\nin 0 4 2 0 0 1\nin 0 -1 2 0 0 1\nin 0 1 -1 0 0 1\nin 0 1 2 8 0 1\nin 0 1 2 -1 0 1\nin 0 1 2 0 8 1\nin 0 1 2 0 -1 1\nin 0 1 2 0 0 0\non", strings.Repeat("no\n", 11) + "told\n"},
		{"on 1 1\nin 0 1 2 0 0 1\nin 0 1 2 1 0 1\nin 0 1 2 7 0 1\nin 0 1 2 1 1 1\non", "told\nno\nno\nno\nin\ntold 1:2@1,1=1\n"},
		{"plan in1\nin 1 1 2 0 0 3\nin 0 1 2 0 0 4\non", "plan\nin\nin\ntold 1:2@0,0=3\n"},
		{"in 0 1 2 0 0 1\nplan in0\non", "in\nplan\ntold\n"},
		{"in 0 1 2 0 0 1\nplan in2\non", "in\nno\ntold 1:2@0,0=1\n"},
		{"on\nplan in0\nin 0 1 2 0 0 1\nat 0 0", "told\nplan\nin\nno\n"},
		{"plan join in0 in0\nin 0 0 1 0 0 99\non\nat 0 0", "plan\nin\ntold 0:11@0,0=9801\nthere 0:11=9801\n"},
		{"plan join in0 in1\nin 0 0 1 0 2 99\nin 1 0 2 2 0 -99\non 0 3 3 0\nat 7 2\non\nat 2 2", "plan\nin\nin\ntold 0:12@2,2=-9801\nno\ntold\nthere 0:12=-9801\n"},
		{"plan sum3 in0\nin 0 0 1 0 2 1\nin 0 0 2 2 0 1\non 0 3 2 0\non 0 3 3 2\nat 2 2\nat 7 1\nat 2 3\non\non", "plan\nin\nin\ntold 0:1@0,2=1\ntold 0:2@2,0=1 0:2@2,2=-1\nthere 0:1=1\nthere 0:2=1\nno\ntold\ntold\n"},
		{"plan less in0\nin 0 0 1 0 0 1\non 1 0\nin 0 0 1 1 0 -1\non 2 0\nat 0 0\nat 1 0", "plan\nin\ntold 0:1@0,0=-1\nin\ntold 0:1@1,0=1\nthere 0:1=-1\nthere\n"},
		{"plan join in0 join in0 in0\nin 0 0 1 0 0 99\nin 0 0 1 0 0 46\nin 0 0 1 0 0 1\non", "plan\nno\nin\nno\ntold 0:21@0,0=97336\n"},
		{"what\nplan\nin\nat\nin 0\nat 0\non 0\n\nx\nON", strings.Repeat("what\n", 9)},
		{"what x\non x\nat x\nin x\nplan x\n \nx y\nON 0 x", strings.Repeat("no\n", 8)},
		{"on\x00\non", "what\ntold\n"},
		{"on\r\non\r\n", "what\nwhat\n"},
		{"on 0 1\r\nat 0 0\r\n", "no\nno\n"},
		{"on 0 1\x00at 0 0", "no\n"},
	} {
		checkRun(t, c.text, c.want)
	}
}

// So many rows are made of what comes in one by one that the last is too much.
func TestLinesRunOfTooManyRows(t *testing.T) {
	text, want := "plan join in0 in1\n", "plan\n"
	for i := range 20 {
		text += fmt.Sprintf("in 0 0 %d 0 %d 1\n", i/4, i%4)
		want += "in\n"
	}
	for i := range 20 {
		text += fmt.Sprintf("in 1 0 %d %d 0 1\n", i/4, i%4)
		want += "in\n"
	}
	var rows []string
	for place := range 400 {
		rows = append(rows, fmt.Sprintf(" 0:%d@%d,%d=1", place/80*10+place/16%5, place/4%4, place%4))
	}
	text += "in 1 0 9 0 0 1\non\nin 1 0 9 0 0 1"
	want += "no\ntold" + strings.Join(rows, "") + "\nno\n"
	checkRun(t, text, want)
}

func TestLinesRunAtTheLimitOfBytes(t *testing.T) {
	cent := strings.Repeat("\u20ac", 666)
	numbers := "on" + strings.Repeat(" 0", 998)
	for _, c := range []struct{ text, want string }{
		{strings.Repeat("on\n", 666) + "on", strings.Repeat("told\n", 667)},
		{strings.Repeat("\n", linesMost), ""},
		{strings.Repeat("\n", linesMost-2) + "on", "told\n"},
		{"on" + strings.Repeat("\n", linesMost-2), "told\n"},
		{strings.Repeat("x", linesMost), "what\n"},
		{strings.Repeat(" ", linesMost), "no\n"},
		{strings.Repeat("\x00", linesMost), "what\n"},
		{strings.Repeat("x\n", linesMost/2), strings.Repeat("what\n", linesMost/2)},
		{"plan " + strings.Repeat("x", linesMost-5), "no\n"},
		{"plan in0" + strings.Repeat("\n", linesMost-8), "plan\n"},
		{cent + "xx", "what\n"},
		{numbers + "\n\n", "no\n"},
		{numbers + " 0", "what\n"},
		{numbers + "\nx", "no\nwhat\n"},
		{"what" + strings.Repeat(" 0", 998), "what\n"},
		{"what " + strings.Repeat("0", linesMost-5), "no\n"},
	} {
		if len(c.text) != linesMost {
			t.Errorf("%q has %d bytes", c.text, len(c.text))
		}
		checkRun(t, c.text, c.want)
		for _, more := range []string{c.text + "\n", "\n" + c.text, c.text + " ", c.text + "\x00", c.text + c.text, cent + c.text} {
			checkRun(t, more, "too long\n")
		}
	}
	checkRun(t, strings.Repeat("\n", linesMost+1), "too long\n")
	checkRun(t, strings.Repeat("on\n", 1000000), "too long\n")
	checkRun(t, strings.Repeat("\u20ac", 667), "too long\n")
}

// Each number there is of up to three figures, written as it is, and otherwise, at each place of each line.
func TestLinesRunOfNumbers(t *testing.T) {
	settled := "in 0 1 2 0 0 1\non 3 3\n"
	places := []string{"at # 0", "at 0 #", "on # 5", "on 5 #", "on 3 5 # 3", "in # 1 2 4 4 1", "in 0 # 2 4 4 1", "in 0 1 # 4 4 1", "in 0 1 2 # 4 1", "in 0 1 2 4 # 1", "in 0 1 2 4 4 #"}
	for n := -1000; n <= 1000; n++ {
		for _, word := range []string{strconv.Itoa(n), fmt.Sprintf("%02d", n), fmt.Sprintf("%+d", n), fmt.Sprintf("-%d", n)} {
			want := "no\n"
			if m, err := strconv.Atoi(word); err == nil && strconv.Itoa(m) == word && m > -100 && m < 100 {
				want = "what\n"
			}
			checkRun(t, "what "+word, want)
			if n < -120 || n > 120 {
				continue
			}
			for _, place := range places {
				text := settled + strings.Replace(place, "#", word, 1) + "\non"
				checkRun(t, text, wantLinesRun(text))
			}
		}
	}
}

// shortWords are all words of one and of two bytes, which have no newline.
func shortWords() []string {
	var words []string
	for _, b := range allBytes() {
		words = append(words, string([]byte{b}))
		for _, c := range allBytes() {
			words = append(words, string([]byte{b, c}))
		}
	}
	return slices.DeleteFunc(words, func(word string) bool { return strings.Contains(word, "\n") })
}

func TestLinesRunOfAllShortWordsBehindTheFirst(t *testing.T) {
	numbers := 0
	for i, word := range shortWords() {
		want := "no\n"
		if n, err := strconv.Atoi(word); err == nil && strconv.Itoa(n) == word {
			want = "what\n"
			numbers++
		}
		if got := impl.LinesRun("what " + word); got != want {
			t.Fatalf("%q is answered %q", "what "+word, got)
		}
		text := []string{"on " + word, "on 3 3\nat 2 " + word + "\nat 0 0", "in 0 1 " + word + " 0 0 1\non"}[i%3]
		if got, want := impl.LinesRun(text), wantLinesRun(text); got != want {
			t.Fatalf("%q is answered %q, not %q", text, got, want)
		}
	}
	if numbers != 10+90+9 {
		t.Errorf("%d words of at most two bytes are numbers", numbers)
	}
}

func TestLinesRunOfAllShortWordsAtTheBeginning(t *testing.T) {
	known := map[string][3]string{"in": {"what\n", "what\n", "in\n"}, "on": {"told\n", "told\n", "no\n"}, "at": {"what\n", "no\n", "what\n"}}
	for _, word := range shortWords() {
		if strings.Contains(word, " ") {
			continue
		}
		want, ok := known[word]
		if !ok {
			want = [3]string{"what\n", "what\n", "what\n"}
		}
		for i, behind := range []string{"", " 0 0", " 1 2 3 4 5 6"} {
			if got := impl.LinesRun(word + behind); got != want[i] {
				t.Fatalf("%q is answered %q", word+behind, got)
			}
		}
	}
}

func TestLinesRunOfLinesThatAreNone(t *testing.T) {
	for _, ahead := range []string{"", "on 1 1\n", "on\n", "in 0 1 2 0 0 1\n", "plan sum1 in0\n", "x\n"} {
		said := wantLinesRun(ahead)
		for _, line := range noLines() {
			checkRun(t, ahead+line, said+"no\n")
			checkRun(t, ahead+line+"\non", said+"no\n"+strings.TrimPrefix(wantLinesRun(ahead+"on"), said))
		}
		for _, line := range whatLines() {
			checkRun(t, ahead+line, said+"what\n")
		}
	}
}

// What is nearly a line, in each byte, is answered as the model says, and so is what comes behind it.
func TestLinesRunOfWhatIsNearlyALine(t *testing.T) {
	for _, line := range []string{"in 0 1 2 1 1 12", "on", "on 1 2", "on 0 3 1 1", "at 0 0", "plan sum1 in0", "plan in1"} {
		nearTexts(line, allBytes(), func(near string) {
			text := "in 0 1 2 0 0 1\non 0 1 1 0\n" + near + "\nin 0 1 3 4 4 1\non\nat 4 4"
			if got, want := impl.LinesRun(text), wantLinesRun(text); got != want {
				t.Fatalf("%q is answered %q, not %q", text, got, want)
			}
		})
	}
}

// saidOf counts answers, those that tell something apart from those that tell nothing.
func saidOf(answers string, said map[string]int) {
	for answer := range strings.Lines(answers) {
		word, rest, _ := strings.Cut(strings.TrimSuffix(answer, "\n"), " ")
		if rest != "" {
			word += " .."
		}
		said[word]++
	}
}

func TestLinesRunOfMany(t *testing.T) {
	said := map[string]int{}
	for _, lines := range lineTexts(1500) {
		text := textOf(lines)
		if len(text) > linesMost {
			t.Fatalf("%q has %d bytes", text, len(text))
		}
		got := impl.LinesRun(text)
		if want := wantLinesRun(text); got != want {
			t.Fatalf("%q is answered %q, not %q", text, got, want)
		}
		saidOf(got, said)
	}
	for word, least := range map[string]int{"plan": 2000, "in": 10000, "told": 4000, "told ..": 1500, "there": 5000, "there ..": 1000, "no": 5000, "what": 1500} {
		if said[word] < least {
			t.Errorf("%q is answered %d times", word, said[word])
		}
	}
}

// Nothing is kept from one text to another, one behind the other or at the same time.
func TestLinesRunKeepsNothing(t *testing.T) {
	texts := lineTexts(200)
	var work sync.WaitGroup
	got := make([][2]string, len(texts))
	for i, lines := range texts {
		work.Add(1)
		go func() {
			defer work.Done()
			got[i] = [2]string{impl.LinesRun(textOf(lines)), impl.LinesRun(textOf(lines))}
		}()
	}
	work.Wait()
	for i, lines := range texts {
		if want := wantLinesRun(textOf(lines)); got[i] != [2]string{want, want} {
			t.Fatalf("%q is answered %q", textOf(lines), got[i])
		}
	}
}
