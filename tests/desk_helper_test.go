package tests

import (
	"fmt"
	"slices"
	"strings"
	"testing"

	"loop.example/productprograms/impl"
)

// A model of the desk that asks the functions of the chapters before, line after line.

const equalAtFirst = "&=xX&=yY&=zZt"

type modelDesk struct {
	p, q      string
	pre, post string
	s, t      impl.State
}

// modelScript returns what a script should write.
func modelScript(text string) string {
	if len(text) > 20000 {
		return "long\n"
	}
	m := modelDesk{p: "s", q: "s", pre: equalAtFirst, post: equalAtFirst}
	var out strings.Builder
	for before, more := 0, true; more; before++ {
		var line string
		line, text, more = strings.Cut(text, "\n")
		if line == "" {
			continue
		}
		if before > 99 || out.Len() > 40000 {
			return out.String() + "full\n"
		}
		out.WriteString(m.line(line) + "\n")
	}
	return out.String()
}

func (m *modelDesk) line(line string) string {
	at := strings.IndexByte(line, ' ')
	if at < 0 {
		return m.alone(line)
	}
	word, rest := line[:at], line[at+1:]
	if (word == "triple" || word == "counter") && strings.Count(rest, " ") == 1 {
		return m.ofTests(word, rest)
	}
	return m.withRest(word, rest)
}

// unless returns `no` instead of what is told by a false.
func unless(told string, ok bool) string {
	if !ok {
		return "no"
	}
	return told
}

func lettersOrNone(text string) string {
	if text == "" {
		return "-"
	}
	return text
}

func modelCostText(cost int) string {
	return strings.NewReplacer("-1", "none", "-2", "any").Replace(fmt.Sprint(cost))
}

// modelStates returns the states of a set as texts.
func modelStates(p string) string {
	var list []string
	for i, s := range allStates() {
		if p[i] == '1' {
			list = append(list, fmt.Sprintf("%d%d%d", s.X, s.Y, s.Z))
		}
	}
	return lettersOrNone(strings.Join(list, " "))
}

func modelStatesOf(p string, ok bool) string {
	if !ok {
		return "no"
	}
	return modelStates(p)
}

func (m *modelDesk) relations() (string, string) {
	r, _ := impl.RelOf(m.pre)
	o, _ := impl.RelOf(m.post)
	return r, o
}

// become puts another program in place of the left one, if there is one.
func (m *modelDesk) become(p string, ok bool) string {
	if ok {
		m.p = p
	}
	return unless(p, ok)
}

func (m *modelDesk) alone(word string) string {
	r, o := m.relations()
	switch word {
	case "left":
		return m.p
	case "right":
		return m.q
	case "pre":
		return m.pre
	case "post":
		return m.post
	case "same":
		return fmt.Sprint(impl.SamePrograms(m.p, m.q))
	case "refines":
		return fmt.Sprint(impl.RefinesProgram(m.p, m.q))
	case "commute":
		return fmt.Sprint(impl.CommutePrograms(m.p, m.q))
	case "holds":
		return fmt.Sprint(impl.PairHolds(r, m.p, m.q, o))
	case "matches":
		return fmt.Sprint(impl.MatchHolds(r, m.p, m.q, o))
	case "together":
		return fmt.Sprint(impl.EndTogether(r, m.p, m.q))
	case "dearer":
		return fmt.Sprint(!impl.NeverDearer(m.p, m.q))
	case "affected":
		return lettersOrNone(impl.AffectedVars(m.p, m.q))
	case "product":
		return unless(impl.LockstepProduct(m.p, m.q))
	case "proves":
		w, ok := impl.LockstepProduct(m.p, m.q)
		return unless(fmt.Sprint(impl.ProductProves(r, w, o)), ok)
	case "derive":
		list, ok := impl.BuildDerivation(m.p, m.q, o)
		return unless(modelLines(list), ok)
	case "exchange":
		m.p, m.q = m.q, m.p
		return m.p
	}
	return m.aloneOfOne(word)
}

// aloneOfOne is for lines that tell of the left program, or compare numbers.
func (m *modelDesk) aloneOfOne(word string) string {
	switch word {
	case "show":
		return impl.ShowProgram(m.p)
	case "run":
		return m.run("")
	case "finals":
		may, _ := impl.RunsFrom(m.p, m.s)
		return modelStates(may.Finals) + map[bool]string{true: " loops"}[may.Loops] + map[bool]string{true: " blocks"}[may.Blocks]
	case "picks":
		picks, ok := impl.PicksTo(m.p, m.s, m.t)
		return unless(lettersOrNone(picks), ok)
	case "turns":
		if m.p[0] != '@' {
			return "no"
		}
		return strings.Trim(fmt.Sprint(impl.TurnsLeft(impl.HeadOf(m.p), impl.PartsOf(m.p)[0])), "[]")
	case "tidy":
		return m.become(impl.TidyProgram(m.p))
	case "fold":
		return m.become(impl.FoldProgram(m.p))
	case "unroll":
		return m.become(impl.UnrollLoop(m.p))
	case "swap":
		return m.become(impl.SwapBranches(m.p))
	case "push":
		return m.become(impl.PushAfter(m.p))
	case "sets":
		return m.become(impl.MergeSets(m.p))
	case "cost":
		least, greatest, _ := impl.CostFrom(m.p, m.s)
		return modelCostText(least) + " " + modelCostText(greatest)
	case "slowest":
		s, cost := impl.SlowestState(m.p)
		return impl.FormatState(s) + " " + modelCostText(cost)
	}
	return m.comparison(word)
}

// comparison is for lines that write `none` if there is nothing to tell.
func (m *modelDesk) comparison(word string) string {
	r, o := m.relations()
	switch word {
	case "differ":
		s, what := impl.FirstDifference(m.p, m.q)
		if what != "none" {
			return impl.FormatState(s) + " " + what
		}
		return what
	case "against":
		s, t, to, other, ok := impl.CounterPair(r, m.p, m.q, o)
		if ok {
			return impl.FormatState(s) + " " + impl.FormatState(t) + " " + impl.FormatState(to) + " " + impl.FormatState(other)
		}
		return "none"
	case "gap":
		gap, kind := impl.CostGap(r, m.p, m.q)
		if kind == "gap" {
			return fmt.Sprint(gap)
		}
		return kind
	}
	return "what"
}

func (m *modelDesk) run(picks string) string {
	to, steps, how := impl.ReplayRun(m.p, m.s, picks, 100)
	if how == impl.RunBroken {
		return "no"
	}
	return fmt.Sprint(impl.FormatState(to), " ", steps, " ", []string{"done", "blocked", "busy", "asks"}[how])
}

// keep puts what a line tells of in its place, if it is valid.
func keep[T any](place *T, value T, valid bool) string {
	if valid {
		*place = value
	}
	return unless("ok", valid)
}

func (m *modelDesk) keepState(place *impl.State, text string) string {
	s, ok := impl.ParseState(text)
	return keep(place, s, ok)
}

func (m *modelDesk) withRest(word, rest string) string {
	switch word {
	case "left":
		return keep(&m.p, rest, impl.ProgramValid(rest))
	case "right":
		return keep(&m.q, rest, impl.ProgramValid(rest))
	case "pre":
		return keep(&m.pre, rest, impl.WideValid(rest))
	case "post":
		return keep(&m.post, rest, impl.WideValid(rest))
	case "from":
		return m.keepState(&m.s, rest)
	case "to":
		return m.keepState(&m.t, rest)
	case "run":
		return m.run(rest)
	case "align":
		return unless(impl.AlignProduct(m.p, m.q, rest))
	case "rewrite":
		return m.become(impl.RewriteAll(m.p, rest))
	case "depends":
		return unless(lettersOrNone(impl.DependsOn(m.p, rest)), len(rest) == 1 && strings.Contains("xyz", rest))
	case "constant":
		_, ok := impl.AgreeOn(rest)
		return unless(fmt.Sprint(impl.ConstantCost(m.p, rest)), ok)
	}
	return m.ofTest(word, rest)
}

// ofTest is for lines whose rest is one test.
func (m *modelDesk) ofTest(word, test string) string {
	set, ok := impl.PredOf(test)
	switch word {
	case "ends", "free", "total":
		if !ok {
			return "no"
		}
		tell := map[string]func(string, string) (string, bool){"ends": impl.PostOf, "free": impl.WeakestFree, "total": impl.WeakestTotal}[word]
		return modelStatesOf(tell(m.p, set))
	case "strongest", "weakest":
		if !ok || m.p[0] != '@' {
			return "no"
		}
		head, body := impl.HeadOf(m.p), impl.PartsOf(m.p)[0]
		if word == "strongest" {
			return modelStatesOf(impl.StrongestInvariant(set, head, body))
		}
		return modelStatesOf(impl.WeakestInvariant(head, body, set))
	}
	return "what"
}

// ofTests is for lines whose rest is two tests.
func (m *modelDesk) ofTests(word, rest string) string {
	first, second, _ := strings.Cut(rest, " ")
	pre, ok := impl.PredOf(first)
	post, ok2 := impl.PredOf(second)
	if !ok || !ok2 {
		return "no"
	}
	if word == "triple" {
		return fmt.Sprint(impl.TripleHolds(pre, m.p, post))
	}
	s, t, found := impl.CounterTriple(pre, m.p, post)
	if !found {
		return "none"
	}
	return impl.FormatState(s) + " " + impl.FormatState(t)
}

// modelLines is what FormatDerivation returns.
func modelLines(list []impl.Line) string {
	text := ""
	for _, l := range list {
		text += " " + l.Rule
		for _, ref := range l.Refs {
			text += fmt.Sprintf(",%d", ref)
		}
	}
	if len(list) == 0 {
		return "-"
	}
	return text[1:]
}

func wantScript(t *testing.T, script, want string) {
	t.Helper()
	if got := impl.RunScript(script); got != want {
		t.Errorf("RunScript(%.400q) = %.400q, want %.400q", script, got, want)
	}
}

// wantTold expects what lines write, each of which stands before its output.
func wantTold(t *testing.T, linesAndOutput ...string) {
	t.Helper()
	script, want := "", ""
	for n := 0; n < len(linesAndOutput); n += 2 {
		script += linesAndOutput[n] + "\n"
		want += linesAndOutput[n+1] + "\n"
	}
	wantScript(t, script, want)
}

// told returns what each line of a script writes; none of them is empty.
func told(t *testing.T, lines ...string) []string {
	t.Helper()
	out := strings.Split(impl.RunScript(strings.Join(lines, "\n")), "\n")
	if len(out) != len(lines)+1 || out[len(lines)] != "" {
		t.Fatalf("%.400q writes %.400q", lines, out)
	}
	return out[:len(lines)]
}

// lastTold returns what the last line of a script writes.
func lastTold(t *testing.T, lines ...string) string {
	t.Helper()
	return told(t, lines...)[len(lines)-1]
}

// wordsAlone returns the lines of the table that have no rest.
func wordsAlone() []string {
	return strings.Fields("left right pre post show run finals picks turns same refines commute differ affected holds matches together against product proves derive tidy fold unroll swap push sets exchange cost slowest gap dearer")
}

// wordsWithRest returns those whose rest is one thing, and wordsWithTests those whose
// rest is two tests.
func wordsWithRest() []string {
	return strings.Fields("left right pre post from to run ends free total strongest weakest depends align rewrite constant")
}

func wordsWithTests() []string { return []string{"triple", "counter"} }

// A scriptWriter writes lines of every kind, most of them valid.
type scriptWriter struct {
	seed     uint32
	programs []string
}

func (w *scriptWriter) choose(n int) int {
	w.seed = w.seed*1664525 + 1013904223
	return int(w.seed >> 9 % uint32(n))
}

func (w *scriptWriter) oneOf(list []string) string { return list[w.choose(len(list))] }

// testOf returns a test of one state, or of two if wide.
func (w *scriptWriter) testOf(wide bool) string {
	tests := []string{"t", "f", "=x0", "=x1", "<x2", "!=y2", "&=x1=y0", "|=z0<xy", "=xy", "!&=x2=y2", "=+xyz"}
	if wide {
		tests = append(tests, "=xX", "=yY", "&=xX=yY", "&=xX&=yY=zZ", "!<xX", "<xX", "=X2", "=+x1X", "|<x2=yZ", "!=xY")
	}
	return w.oneOf(tests)
}

// line returns a line of the table, and now and then one that is none, or that has
// no rest as it should be.
func (w *scriptWriter) line() string {
	switch w.choose(16) {
	case 0, 1, 2:
		return w.oneOf([]string{"left ", "right "}) + w.oneOf(w.programs)
	case 3:
		return w.oneOf([]string{"pre ", "post "}) + w.testOf(true)
	case 4:
		return w.oneOf([]string{"from ", "to "}) + impl.FormatState(allStates()[w.choose(27)])
	case 5:
		return w.oneOf([]string{"ends ", "free ", "total ", "strongest ", "weakest "}) + w.testOf(false)
	case 6:
		return w.oneOf(wordsWithTests()) + " " + w.testOf(false) + " " + w.testOf(false)
	case 7:
		return "run " + w.oneOf(allPicks(5))
	case 8:
		return "rewrite " + w.oneOf(rewritingNames())
	case 9:
		return w.oneOf([]string{"depends x", "depends y", "depends z", "constant ", "constant x", "constant xz", "constant xyz", "align b", "align lr", "align rl", "align bb", "align llr", "align lrb"})
	case 10:
		words := append(wordsWithRest(), wordsWithTests()...)
		return w.oneOf(words) + w.oneOf([]string{"", " ", " x", " t", " t  f", " s", " =xX", " 012", " 01", " xyz", " flat", "s"})
	case 11:
		return w.oneOf([]string{"", "foo", " ", "LEFT s", "same ", "left\ts", "exchange"})
	}
	return w.oneOf(wordsAlone())
}

func (w *scriptWriter) script(lines int) string {
	var list []string
	for range lines {
		list = append(list, w.line())
	}
	return strings.Join(list, "\n")
}

// deskPrograms returns programs of every kind that are not too long.
func deskPrograms() []string {
	list := append(programsOfEveryKind(), choosingPrograms()...)
	list = append(list, endlessPrograms()[:16]...)
	list = append(list, roundPrograms()...)
	for n, p := range slices.Concat(rewritablePrograms(30), movingPrograms(), costlyPrograms(20)) {
		if n%4 == 0 && len(p) <= 70 {
			list = append(list, p)
		}
	}
	return list
}
