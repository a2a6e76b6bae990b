package tests

import (
	"slices"
	"strconv"
	"strings"
	"testing"

	"loop.example/productprograms/impl"
)

func TestDeskAgainstTheModel(t *testing.T) {
	t.Parallel()
	seen := map[string]int{}
	programs := deskPrograms()
	for n := range 60 {
		w := scriptWriter{uint32(n), programs}
		script := w.script(100)
		wantScript(t, script, modelScript(script))
		for _, line := range strings.Split(script, "\n") {
			word, rest, has := strings.Cut(line, " ")
			seen[word]++
			if has && rest != "" {
				seen[word+" "]++
			}
		}
	}
	for _, word := range wordsAlone() {
		if seen[word] < 20 {
			t.Errorf("%q is written %d times", word, seen[word])
		}
	}
	for _, word := range append(wordsWithRest(), wordsWithTests()...) {
		if seen[word+" "] < 20 {
			t.Errorf("%q with a rest is written %d times", word, seen[word+" "])
		}
	}
}

// Lines of one kind, of programs of every kind.
func TestEachLineAgainstTheModel(t *testing.T) {
	t.Parallel()
	programs := deskPrograms()
	for n, p := range programs {
		q := programs[(n*37+11)%len(programs)]
		w := scriptWriter{uint32(n), programs}
		before := "left " + p + "\nright " + q + "\npre " + w.testOf(true) + "\npost " + w.testOf(true) + "\nfrom " + impl.FormatState(allStates()[n%27]) + "\nto " + impl.FormatState(allStates()[n*7%27]) + "\n"
		// What changes the program comes last.
		for _, word := range wordsAlone() {
			script := before + word + "\nleft\nright"
			wantScript(t, script, modelScript(script))
		}
		script := before + "run 0\nrun 10\nalign b\nalign lr\ndepends y\nconstant x\nrewrite skips\nrewrite push\nrewrite sets\nrewrite swap\nrewrite unroll\nrewrite flat\nleft"
		for _, word := range []string{"ends", "free", "total", "strongest", "weakest"} {
			script += "\n" + word + " " + w.testOf(false)
		}
		wantScript(t, script, modelScript(script))
	}
}

// What the desk tells of one program, by its lines `finals` and `cost` from each state.
type toldOfStates struct {
	finals        [27]map[string]bool
	loops, blocks [27]bool
	costs         [27]string
}

// named returns the states that a line of the desk writes.
func named(text string) map[string]bool {
	set := map[string]bool{}
	for _, s := range strings.Fields(text) {
		if s != "-" {
			set[s] = true
		}
	}
	return set
}

func toldFromAllStates(t *testing.T, p string) toldOfStates {
	t.Helper()
	var all toldOfStates
	lines := []string{"left " + p}
	for _, s := range allStates() {
		lines = append(lines, "from "+impl.FormatState(s), "finals", "cost")
	}
	out := told(t, lines...)[1:]
	for i := range 27 {
		finals, blocks := strings.CutSuffix(out[3*i+1], " blocks")
		finals, loops := strings.CutSuffix(finals, " loops")
		all.finals[i], all.loops[i], all.blocks[i], all.costs[i] = named(finals), loops, blocks, out[3*i+2]
	}
	return all
}

// surely reports whether all runs from a state end.
func (all toldOfStates) surely(i int) bool { return !all.loops[i] && !all.blocks[i] }

func sameNamed(a, b map[string]bool) bool { return namedWithin(a, b) && namedWithin(b, a) }

func namedWithin(a, b map[string]bool) bool {
	for s := range a {
		if !b[s] {
			return false
		}
	}
	return true
}

func truthOf(is bool) string { return strconv.FormatBool(is) }

// wantSaid compares what the desk writes with what it tells by other ways.
func wantSaid(t *testing.T, line, about, got, want string) {
	t.Helper()
	if got != want {
		t.Errorf("%q of %.300q writes %.300q, want %.300q", line, about, got, want)
	}
}

// isTrueOf reports whether a wide test is true of two states that are written.
func isTrueOf(w, s, t string) bool {
	is, _ := impl.EvalWide(w, stateOf(s), stateOf(t))
	return is
}

// pairsToTell returns pairs of programs, many of which do nearly the same.
func pairsToTell(step int) [][2]string {
	list := append(programsToDerive()[:16], [2]string{"@<x2ax+x1", "ax2"}, [2]string{strings.Repeat("?ts", 40) + "ax1", strings.Repeat("?ts", 45) + "ax1"})
	programs := deskPrograms()
	for n := 0; n < len(programs); n += step {
		p := programs[n]
		near := append(sameAs(p), nearTo(p)...)
		list = append(list, [2]string{p, programs[(n*53+29)%len(programs)]}, [2]string{p, near[n%len(near)]}, [2]string{near[(n+5)%len(near)], p})
	}
	return slices.DeleteFunc(list, func(both [2]string) bool { return len(both[0]) > 200 || len(both[1]) > 200 })
}

// Promise 13, of two programs: `holds` is told by `against`, `proves`, `align` and
// `derive`, and by `finals`, as are `matches` and `together`.
func TestPairsOfTheDeskAgree(t *testing.T) {
	t.Parallel()
	tests := [][2]string{{equalAtFirst, equalAtFirst}, {"=xX", "=xX"}, {"t", "!=xY"}, {equalAtFirst, "!<xX"}, {"=x1", "=X1"}, {"&=yY=zZ", "|=xX=yY"}, {"<xX", "t"}, {"t", "f"}, {equalAtFirst, "&=yY=zZ"}}
	seen := map[string]int{}
	for n, both := range pairsToTell(5) {
		p, q := both[0], both[1]
		left, right := toldFromAllStates(t, p), toldFromAllStates(t, q)
		for k := range 2 {
			pre, post := tests[(n+4*k)%len(tests)][0], tests[(n+4*k)%len(tests)][1]
			about := strings.Join([]string{p, q, pre, post}, " ")
			out := told(t, "left "+p, "right "+q, "pre "+pre, "post "+post, "holds", "against", "product", "proves", "derive", "matches", "together")[4:]
			holds, matches, together := pairsByFinals(pre, post, left, right)
			wantSaid(t, "holds", about, out[0], truthOf(holds))
			wantSaid(t, "matches", about, out[5], truthOf(matches))
			wantSaid(t, "together", about, out[6], truthOf(together))
			wantTruth(t, "whether against writes none of "+about, out[1] == "none", holds)
			if proves := out[3]; out[2] != "no" {
				wantSaid(t, "proves", about, proves, truthOf(holds))
			} else {
				wantSaid(t, "proves", about, proves, "no")
			}
			if out[1] != "none" {
				checkAgainst(t, pre, post, left, right, out[1])
			}
			checkDerived(t, p, q, pre, post, holds, out[4])
			if k == 0 {
				checkAligned(t, p, q, pre, post, holds)
			}
			seen["holds "+out[0]]++
			seen["matches "+out[5]]++
			seen["together "+out[6]]++
			seen["product is none "+truthOf(out[2] == "no")]++
		}
	}
	for _, kind := range []string{"holds true", "holds false", "matches true", "matches false", "together true", "together false", "product is none true"} {
		if seen[kind] < 2 {
			t.Errorf("%s: %d times", kind, seen[kind])
		}
	}
}

// pairsByFinals tells by what runs from each state come to whether a triple holds,
// whether it does by matching, and whether both programs end together.
func pairsByFinals(pre, post string, left, right toldOfStates) (holds, matches, together bool) {
	holds, matches, together = true, true, true
	for i, s := range allStates() {
		for j, u := range allStates() {
			if is, _ := impl.EvalWide(pre, s, u); !is {
				continue
			}
			together = together && left.surely(i) == right.surely(j)
			for end := range left.finals[i] {
				matched := false
				for other := range right.finals[j] {
					is := isTrueOf(post, end, other)
					holds, matched = holds && is, matched || is
				}
				matches = matches && matched
			}
		}
	}
	return holds, matches, together
}

// checkAgainst checks that the four states are of two runs that do not end as they
// should.
func checkAgainst(t *testing.T, pre, post string, left, right toldOfStates, against string) {
	t.Helper()
	four := strings.Fields(against)
	if len(four) != 4 || !isTrueOf(pre, four[0], four[1]) || isTrueOf(post, four[2], four[3]) || !left.finals[numberOf(stateOf(four[0]))][four[2]] || !right.finals[numberOf(stateOf(four[1]))][four[3]] {
		t.Errorf("against writes %q for %q and %q", against, pre, post)
	}
}

// checkDerived checks that what is written is the derivation of the weakest triple,
// of which one more line makes that of the desk exactly if it holds.
func checkDerived(t *testing.T, p, q, pre, post string, holds bool, written string) {
	t.Helper()
	r, _ := impl.RelOf(pre)
	o, _ := impl.RelOf(post)
	list, ok := impl.BuildDerivation(p, q, o)
	if !ok {
		wantSaid(t, "derive", p+" "+q, written, "no")
		return
	}
	wantSaid(t, "derive", p+" "+q, written, impl.FormatDerivation(list))
	last := len(list) - 1
	if last == 59 {
		return
	}
	list = append(list, impl.Line{Rule: "weak", Pre: r, P: p, Q: q, Post: o, Refs: []int{last}})
	wantTruth(t, "DerivesTriple of "+p+" and "+q+", "+pre+" and "+post, impl.DerivesTriple(list, r, p, q, o), holds)
}

// checkAligned lets the statements of one program stand before those of the other
// one, and takes them in turn.
func checkAligned(t *testing.T, p, q, pre, post string, holds bool) {
	t.Helper()
	r, _ := impl.RelOf(pre)
	o, _ := impl.RelOf(post)
	first, second := len(impl.StatementsOf(p)), len(impl.StatementsOf(q))
	plans := []string{strings.Repeat("l", first) + strings.Repeat("r", second), strings.Repeat("r", second) + strings.Repeat("l", first), strings.Repeat("lr", min(first, second)) + strings.Repeat("l", max(first-second, 0)) + strings.Repeat("r", max(second-first, 0)), strings.Repeat("b", min(first, second)) + strings.Repeat("l", max(first-second, 0)) + strings.Repeat("r", max(second-first, 0))}
	for _, plan := range plans {
		if w := lastTold(t, "left "+p, "right "+q, "align "+plan); w != "no" {
			wantTruth(t, "ProductProves of "+w+", "+pre+" and "+post, impl.ProductProves(r, w, o), holds)
		} else if plan != plans[3] {
			t.Errorf("there is no product of %q and %q by %q", p, q, plan)
		}
	}
}

// Promise 13, of one program: `triple` is told by `counter`, `ends`, `free`, `total`,
// `strongest` and `weakest`, and by `finals`.
func TestTriplesOfTheDeskAgree(t *testing.T) {
	t.Parallel()
	tests := []string{"t", "f", "=x0", "=x1", "<x2", "!=y2", "&=x1=y0", "|=z0<xy", "=xy"}
	seen := map[string]int{}
	list := append(deskPrograms(), someLoops()...)
	for n := 0; n < len(list); n += 2 {
		p := list[n]
		all := toldFromAllStates(t, p)
		for k := range 4 {
			pre, post := tests[(n+k)%len(tests)], tests[(n*5+k*7+3)%len(tests)]
			about := strings.Join([]string{p, pre, post}, " ")
			out := told(t, "left "+p, "triple "+pre+" "+post, "counter "+pre+" "+post, "ends "+pre, "free "+post, "total "+post)[1:]
			triple, counter, ends, free, total := out[0], out[1], named(out[2]), named(out[3]), named(out[4])
			before, after := named(statesIn(pre)), named(statesIn(post))
			wantSaid(t, "triple", about, triple, truthOf(counter == "none"))
			wantSaid(t, "triple", about, triple, truthOf(namedWithin(ends, after)))
			wantSaid(t, "triple", about, triple, truthOf(namedWithin(before, free)))
			for i, s := range allStates() {
				at := impl.FormatState(s)
				wantTruth(t, "whether free tells of "+at+", "+about, free[at], namedWithin(all.finals[i], after))
				wantTruth(t, "whether total tells of "+at+", "+about, total[at], free[at] && all.surely(i))
			}
			if counter != "none" {
				both := strings.Fields(counter)
				if len(both) != 2 || !before[both[0]] || after[both[1]] || !all.finals[numberOf(stateOf(both[0]))][both[1]] {
					t.Errorf("counter of %q writes %q", about, counter)
				}
			}
			seen[triple]++
			checkToldOfLoop(t, p, pre, post, triple, all)
		}
	}
	if seen["true"] < 100 || seen["false"] < 100 {
		t.Errorf("triples are true and false %v times", seen)
	}
}

// checkToldOfLoop compares what is told of a loop with a triple of it, or expects that
// nothing is.
func checkToldOfLoop(t *testing.T, p, pre, post, triple string, all toldOfStates) {
	t.Helper()
	out := told(t, "left "+p, "strongest "+pre, "weakest "+post, "turns")[1:]
	if p[0] != '@' {
		wantSaid(t, "strongest, weakest and turns", p, strings.Join(out, ","), "no,no,no")
		return
	}
	about := strings.Join([]string{p, pre, post}, " ")
	strongest, weakest, turns := named(out[0]), named(out[1]), strings.Fields(out[2])
	leaving, after := named(statesIn("!"+impl.HeadOf(p))), named(statesIn(post))
	for s := range strongest {
		wantTruth(t, "whether what leaves the strongest invariant is as it should be, "+about, !leaving[s] || after[s] || triple == "false", true)
	}
	wantSaid(t, "triple", about, triple, truthOf(namedWithin(strongest, weakest)))
	wantSaid(t, "triple", about, triple, truthOf(namedWithin(named(statesIn(pre)), weakest)))
	for i := range all.loops {
		wantTruth(t, "whether turns are -1 of "+about, turns[i] == "-1", all.loops[i])
		wantTruth(t, "whether turns are 0 of "+about, turns[i] == "0", leaving[impl.FormatState(allStates()[i])])
	}
}

// Promise 13: `same` is told by `differ`, by `refines` both ways, and by `finals`, and
// `affected` by `holds`.
func TestChangesOfTheDeskAgree(t *testing.T) {
	t.Parallel()
	seen := map[string]int{}
	for _, both := range pairsToTell(2) {
		p, q := both[0], both[1]
		about := p + " " + q
		left, right := toldFromAllStates(t, p), toldFromAllStates(t, q)
		out := told(t, "left "+p, "right "+q, "same", "differ", "refines", "affected", "post =xX", "holds", "post =yY", "holds", "post =zZ", "holds", "commute", "exchange", "same", "refines", "affected", "commute")[2:]
		wantSaid(t, "differ", about, out[1], differByFinals(left, right))
		wantSaid(t, "same", about, out[0], truthOf(out[1] == "none"))
		wantSaid(t, "same", about, out[0], truthOf(out[2] == "true" && out[13] == "true"))
		wantSaid(t, "same", about, out[0], out[12])
		affected := ""
		for k, v := range letters() {
			if out[5+2*k] == "false" {
				affected += v
			}
		}
		wantSaid(t, "affected", about, out[3], lettersOrNone(affected))
		wantSaid(t, "affected", about, out[3], out[14])
		wantSaid(t, "commute", about, out[10], out[15])
		if len(p)+len(q) < 200 {
			wantSaid(t, "commute", about, out[10], lastTold(t, "left ;"+p+q, "right ;"+q+p, "same"))
		}
		seen["same "+out[0]]++
		seen["refines "+out[2]]++
		seen["commute "+out[10]]++
		_, what, _ := strings.Cut(out[1], " ")
		seen["differ "+what]++
	}
	for _, kind := range []string{"same true", "same false", "refines true", "refines false", "commute true", "commute false", "differ finals", "differ loops", "differ blocks", "differ "} {
		if seen[kind] < 10 {
			t.Errorf("%q: %d times", kind, seen[kind])
		}
	}
}

func differByFinals(left, right toldOfStates) string {
	for i, s := range allStates() {
		switch {
		case !sameNamed(left.finals[i], right.finals[i]):
			return impl.FormatState(s) + " finals"
		case left.loops[i] != right.loops[i]:
			return impl.FormatState(s) + " loops"
		case left.blocks[i] != right.blocks[i]:
			return impl.FormatState(s) + " blocks"
		}
	}
	return "none"
}

// Promise 13: `picks` and `run` lead to what `finals` tells.
func TestRunsOfTheDeskAgree(t *testing.T) {
	t.Parallel()
	seen := map[string]int{}
	for n, p := range deskPrograms() {
		all := toldFromAllStates(t, p)
		i := n % 27
		from := impl.FormatState(allStates()[i])
		for _, to := range allStates() {
			at := impl.FormatState(to)
			picks := lastTold(t, "left "+p, "from "+from, "to "+at, "picks")
			if picks == "no" {
				continue
			}
			run := "run " + strings.Trim(picks, "-")
			end, how, _ := strings.Cut(lastTold(t, "left "+p, "from "+from, run), " ")
			_, how, _ = strings.Cut(how, " ")
			wantTruth(t, "whether "+p+" ends in "+at, all.finals[i][at], true)
			wantTruth(t, "whether the picks lead to "+at+" by "+p, how == "busy" || how == "done" && end == at, true)
			seen["picks"]++
		}
		for _, picks := range allPicks(4) {
			fields := strings.Fields(lastTold(t, "left "+p, "from "+from, "run "+picks))
			seen[fields[2]]++
			switch fields[2] {
			case "done":
				wantTruth(t, "whether "+p+" ends in "+fields[0], all.finals[i][fields[0]], true)
			case "blocked":
				wantTruth(t, "whether "+p+" is blocked", all.blocks[i], true)
			}
		}
	}
	for _, kind := range []string{"picks", "done", "blocked", "busy", "asks"} {
		if seen[kind] < 50 {
			t.Errorf("%s: %d times", kind, seen[kind])
		}
	}
}

// costOfText returns a cost as a number: that of `any` is greater than all others.
func costOfText(text string) int {
	switch text {
	case "none":
		return none
	case "any":
		return 1 << 40
	}
	cost, _ := strconv.Atoi(text)
	return cost
}

// bothCosts returns the least and the greatest cost that `cost` writes.
func bothCosts(text string) (int, int) {
	least, greatest, _ := strings.Cut(text, " ")
	return costOfText(least), costOfText(greatest)
}

// Promise 13: `cost` is told by `run`. Where there are only assignments, the steps are
// what a run costs; all else makes it cost no more than these.
func TestCostsOfTheDeskAgreeWithRuns(t *testing.T) {
	t.Parallel()
	for _, p := range []string{"ax1", ";ax1ay2", "/ax1;ax1ax1", "/;ax1;ax1ax1/ax2;ax2ax1", ";/ax1;ay1ay1/;az1az1az2", "//;ax+x1ax1ay1/az2;az2;az1;ay1axx", ";;ax1ay1;az1;ax1/ax1;ax1ax1"} {
		for _, s := range allStates() {
			var steps []int
			for _, picks := range allPicks(4) {
				fields := strings.Fields(lastTold(t, "left "+p, "from "+impl.FormatState(s), "run "+picks))
				if count, _ := strconv.Atoi(fields[1]); fields[2] == "done" {
					steps = append(steps, count)
				}
			}
			least, greatest := bothCosts(lastTold(t, "left "+p, "from "+impl.FormatState(s), "cost"))
			if least != slices.Min(steps) || greatest != slices.Max(steps) {
				t.Errorf("the costs of %q are %d and %d, and the steps %v", p, least, greatest, steps)
			}
		}
	}
	for n, p := range append(deskPrograms(), costlyPrograms(20)...) {
		from := allStates()[n%27]
		before := []string{"left " + p, "from " + impl.FormatState(from)}
		least, greatest := bothCosts(lastTold(t, append(before, "cost")...))
		for _, picks := range allPicks(4) {
			fields := strings.Fields(lastTold(t, append(before, "run "+picks)...))
			if fields[2] != "done" {
				continue
			}
			cost, ok := impl.CountedRun(p, from, picks)
			if steps, _ := strconv.Atoi(fields[1]); !ok || cost < least || cost > greatest || cost > steps {
				t.Errorf("the run of %q by %q costs %d and has %d steps, and the costs are %d and %d", p, picks, cost, steps, least, greatest)
			}
		}
	}
}

// Promise 13: `gap`, `dearer`, `slowest` and `constant` are told by `cost`.
func TestCostsOfTheDeskAgree(t *testing.T) {
	t.Parallel()
	tests := []string{equalAtFirst, "=xX", "t", "<xX", "=x1", "f", "&=x0=X2", "&=yY=zZ"}
	seen := map[string]int{}
	for n, both := range pairsToTell(2) {
		p, q, pre := both[0], both[1], tests[n%len(tests)]
		about := strings.Join([]string{p, q, pre}, " ")
		left, right := toldFromAllStates(t, p), toldFromAllStates(t, q)
		out := told(t, "left "+p, "right "+q, "pre "+pre, "gap", "dearer", "slowest", "constant ", "constant y", "constant xz", "constant xyz")[3:]
		gap, dearer := comparedCosts(pre, left, right)
		wantSaid(t, "gap", about, out[0], gap)
		wantSaid(t, "dearer", about, out[1], truthOf(dearer))
		slowest := 0
		for i := range left.costs {
			_, cost := bothCosts(left.costs[i])
			if _, most := bothCosts(left.costs[slowest]); cost > most {
				slowest = i
			}
		}
		_, greatest, _ := strings.Cut(left.costs[slowest], " ")
		wantSaid(t, "slowest", p, out[2], impl.FormatState(allStates()[slowest])+" "+greatest)
		for k, vars := range []string{"", "y", "xz", "xyz"} {
			wantSaid(t, "constant "+vars, p, out[3+k], truthOf(constantByCosts(left, vars)))
		}
		seen["dearer "+out[1]]++
		seen["gap "+strings.Trim(gap, "0123456789")]++
		seen["constant "+out[6]]++
	}
	for _, kind := range []string{"dearer true", "dearer false", "gap ", "gap -", "gap none", "gap any", "constant true", "constant false"} {
		if seen[kind] < 5 {
			t.Errorf("%q: %d times", kind, seen[kind])
		}
	}
}

// comparedCosts returns the gap of two programs, and whether the first one is dearer
// from a state.
func comparedCosts(pre string, left, right toldOfStates) (string, bool) {
	gap, dearer := "none", false
	for i, s := range allStates() {
		_, greatest := bothCosts(left.costs[i])
		_, other := bothCosts(right.costs[i])
		dearer = dearer || greatest > other
		for j, u := range allStates() {
			least, _ := bothCosts(right.costs[j])
			if is, _ := impl.EvalWide(pre, s, u); !is || greatest == none || least == none {
				continue
			}
			switch more := greatest - least; {
			case greatest == 1<<40:
				gap = "any"
			case gap == "none" || gap != "any" && more > costOfText(gap):
				gap = strconv.Itoa(more)
			}
		}
	}
	return gap, dearer
}

// constantByCosts reports whether all costs from states that agree on variables are
// the same one.
func constantByCosts(all toldOfStates, vars string) bool {
	agree := modelAgree(vars)
	for i := range all.costs {
		for j := range all.costs {
			least, greatest := bothCosts(all.costs[i])
			other, another := bothCosts(all.costs[j])
			if inRel(agree, i, j) && least != none && other != none && max(greatest, another) != min(least, other) {
				return false
			}
		}
	}
	return true
}

// Promise 13: a transformed program is the same, and none is dearer than it was.
func TestTransformedProgramsOfTheDeskAgree(t *testing.T) {
	t.Parallel()
	seen := map[string]int{}
	lines := []string{"tidy", "fold", "unroll", "swap", "push", "sets"}
	for _, name := range rewritingNames() {
		lines = append(lines, "rewrite "+name)
	}
	list := slices.Concat(deskPrograms(), rewritablePrograms(30), costlyPrograms(20))
	for _, p := range list {
		for _, line := range lines {
			out := told(t, "left "+p, "right "+p, line, "same", "dearer", "differ", "left", "exchange", "dearer", "same", "right")[2:]
			about := p + ", " + line
			if out[0] == "no" {
				wantSaid(t, "left", about, out[4], p)
				seen[line+" no"]++
			} else {
				wantSaid(t, "left", about, out[4], out[0])
				seen[line]++
			}
			wantSaid(t, "exchange", about, out[5], p)
			wantSaid(t, "right", about, out[8], out[4])
			wantSaid(t, "same, differ and dearer", about, strings.Join([]string{out[1], out[7], out[3], out[2]}, ","), "true,true,none,false")
			// Only what leaves out assignments makes a program cheaper.
			if line != "tidy" && line != "sets" && line != "rewrite sets" && line != "rewrite skips" {
				wantSaid(t, "dearer", about, out[6], "false")
			} else if out[6] == "true" {
				seen["cheaper"]++
			}
		}
	}
	for _, line := range append(lines, "unroll no", "swap no", "push no", "sets no", "cheaper") {
		if seen[line] < 5 {
			t.Errorf("%q: %d times", line, seen[line])
		}
	}
}
