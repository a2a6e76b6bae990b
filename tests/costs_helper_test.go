package tests

import (
	"slices"
	"strings"
	"testing"

	"loop.example/productprograms/impl"
)

// A model of costs that composes what the runs of each statement cost, from every
// state to every state, and goes along no run.

// A modelCost is the least and the greatest cost of some runs, if there are any, and
// whether there are runs of any great cost.
type modelCost struct {
	runs     bool
	least    int
	greatest int
	any      bool
}

// or tells of the runs of both.
func (c modelCost) or(d modelCost) modelCost {
	if !c.runs {
		return d
	}
	if !d.runs {
		return c
	}
	return modelCost{true, min(c.least, d.least), max(c.greatest, d.greatest), c.any || d.any}.unlessAny()
}

// then tells of a run of one and a run of the other one in sequence.
func (c modelCost) then(d modelCost) modelCost {
	if !c.runs || !d.runs {
		return modelCost{}
	}
	return modelCost{true, c.least + d.least, c.greatest + d.greatest, c.any || d.any}.unlessAny()
}

// unlessAny leaves no number where there is no greatest cost.
func (c modelCost) unlessAny() modelCost {
	if c.any {
		c.greatest = 0
	}
	return c
}

// numbers returns both costs as the chapter tells them.
func (c modelCost) numbers() (int, int) {
	switch {
	case !c.runs:
		return -1, -1
	case c.any:
		return c.least, -2
	}
	return c.least, c.greatest
}

// rank returns a number by which greatest costs are compared.
func (c modelCost) rank() int {
	switch {
	case !c.runs:
		return -1
	case c.any:
		return 1 << 40
	}
	return c.greatest
}

// modelCosts tell, by the numbers of states, of the runs from one to another one.
type modelCosts [27][27]modelCost

// costsOf composes the costs of a statement from those of its parts.
func costsOf(n *modelNode) *modelCosts {
	var parts []*modelCosts
	for _, part := range n.parts {
		parts = append(parts, costsOf(part))
	}
	if n.letter == "@" {
		return loopCosts(n, parts[0])
	}
	m := &modelCosts{}
	for i, s := range allStates() {
		switch {
		case n.letter == "s", n.letter == "~" && n.isTrue(s):
			m[i][i].runs = true
		case n.letter == "a":
			m[i][numberOf(n.assign(s))] = modelCost{true, 1, 1, false}
		case n.letter == "?" && n.isTrue(s):
			m[i] = parts[0][i]
		case n.letter == "?":
			m[i] = parts[1][i]
		case n.letter == "/":
			for j := range 27 {
				m[i][j] = parts[0][i][j].or(parts[1][i][j])
			}
		case n.letter == ";":
			m[i] = parts[1].behind(parts[0][i])
		}
	}
	return m
}

// behind returns the costs of runs that go on after others.
func (m *modelCosts) behind(before [27]modelCost) [27]modelCost {
	var all [27]modelCost
	for k, first := range before {
		if !first.runs {
			continue
		}
		for j := range all {
			all[j] = all[j].or(first.then(m[k][j]))
		}
	}
	return all
}

// loopCosts lets runs have more and more turns. After as many turns as there are
// states, all ways without the same state twice are known, and what becomes dearer
// goes round.
func loopCosts(n *modelNode, body *modelCosts) *modelCosts {
	m := &modelCosts{}
	var turns modelCosts
	for i, s := range allStates() {
		if n.isTrue(s) {
			turns[i] = body[i]
		} else {
			m[i][i].runs = true
		}
	}
	for round := range 60 {
		longer := &modelCosts{}
		for i := range m {
			longer[i] = m.behind(turns[i])
			for j := range m {
				longer[i][j] = longer[i][j].or(m[i][j])
				if round > 28 && longer[i][j].rank() > m[i][j].rank() {
					longer[i][j].any, longer[i][j].greatest = true, 0
				}
			}
		}
		if *longer == *m {
			break
		}
		m = longer
	}
	return m
}

func costsOfText(p string) *modelCosts { return costsOf(modelTree(p)) }

// from tells of all runs from a state, wherever they end.
func (m *modelCosts) from(i int) modelCost {
	var all modelCost
	for _, c := range m[i] {
		all = all.or(c)
	}
	return all
}

// fromAll tells of all runs from each state.
func (m *modelCosts) fromAll() [27]modelCost {
	var all [27]modelCost
	for i := range all {
		all[i] = m.from(i)
	}
	return all
}

// slowest is what SlowestState returns.
func (m *modelCosts) slowest() (impl.State, int) {
	at, all := 0, m.fromAll()
	for i := range all {
		if all[i].rank() > all[at].rank() {
			at = i
		}
	}
	_, cost := all[at].numbers()
	return allStates()[at], cost
}

// modelGap is what CostGap returns.
func modelGap(pre string, m, q *modelCosts) (int, string) {
	var gaps []int
	left, right := m.fromAll(), q.fromAll()
	for k := range pre {
		first, second := left[k/27], right[k%27]
		if pre[k] == '0' || !first.runs || !second.runs {
			continue
		}
		if first.any {
			return 0, "any"
		}
		gaps = append(gaps, first.greatest-second.least)
	}
	if len(gaps) == 0 {
		return 0, "none"
	}
	return slices.Max(gaps), "gap"
}

// isConstant collects, for each state, the runs from all states that agree with it.
func (m *modelCosts) isConstant(vars string) bool {
	alone := m.fromAll()
	for i := range alone {
		var all modelCost
		for j := range alone {
			if inRel(agreements[vars], i, j) {
				all = all.or(alone[j])
			}
		}
		if all.any || all.least != all.greatest {
			return false
		}
	}
	return true
}

func (m *modelCosts) neverDearer(q *modelCosts) bool {
	left, right := m.fromAll(), q.fromAll()
	for i := range left {
		if left[i].rank() > right[i].rank() {
			return false
		}
	}
	return true
}

func wantCosts(t *testing.T, call string, least, greatest int, ok bool, wantLeast, wantGreatest int, wantOK bool) {
	t.Helper()
	if least != wantLeast || greatest != wantGreatest || ok != wantOK {
		t.Errorf("%s = %d, %d, %v, want %d, %d, %v", call, least, greatest, ok, wantLeast, wantGreatest, wantOK)
	}
}

func wantCostFrom(t *testing.T, p string, s impl.State, wantLeast, wantGreatest int) {
	t.Helper()
	least, greatest, ok := impl.CostFrom(p, s)
	wantCosts(t, "CostFrom of "+p+" and "+impl.FormatState(s), least, greatest, ok, wantLeast, wantGreatest, true)
}

func wantCostBetween(t *testing.T, p string, s, to impl.State, wantLeast, wantGreatest int) {
	t.Helper()
	least, greatest, ok := impl.CostBetween(p, s, to)
	wantCosts(t, "CostBetween of "+p+", "+impl.FormatState(s)+" and "+impl.FormatState(to), least, greatest, ok, wantLeast, wantGreatest, true)
}

func wantSlowest(t *testing.T, p string, want impl.State, wantCost int) {
	t.Helper()
	if s, cost := impl.SlowestState(p); s != want || cost != wantCost {
		t.Errorf("SlowestState(%.220q) = %v, %d, want %v, %d", p, s, cost, want, wantCost)
	}
}

func wantGap(t *testing.T, pre, p, q string, want int, wantKind string) {
	t.Helper()
	if gap, kind := impl.CostGap(pre, p, q); gap != want || kind != wantKind {
		t.Errorf("CostGap(%.729q, %.220q, %.220q) = %d, %q, want %d, %q", pre, p, q, gap, kind, want, wantKind)
	}
}

func wantCounted(t *testing.T, p string, s impl.State, picks string, want int, wantOK bool) {
	t.Helper()
	if cost, ok := impl.CountedRun(p, s, picks); cost != want || ok != wantOK {
		t.Errorf("CountedRun(%.220q, %v, %.40q) = %d, %v, want %d, %v", p, s, picks, cost, ok, want, wantOK)
	}
}

// checkCosts compares all functions of one program with the model, CostBetween from
// some states.
func checkCosts(t *testing.T, p string, starts ...int) {
	t.Helper()
	m := costsOfText(p)
	for i, s := range allStates() {
		least, greatest := m.from(i).numbers()
		wantCostFrom(t, p, s, least, greatest)
	}
	for _, i := range starts {
		for j, to := range allStates() {
			least, greatest := m[i][j].numbers()
			wantCostBetween(t, p, allStates()[i], to, least, greatest)
		}
	}
	s, cost := m.slowest()
	wantSlowest(t, p, s, cost)
	for _, vars := range lettersToAgreeOn() {
		wantTruth(t, "ConstantCost of "+p+", "+vars, impl.ConstantCost(p, vars), m.isConstant(vars))
	}
}

// checkCostsOfTwo compares the functions of two programs with the model.
func checkCostsOfTwo(t *testing.T, p, q string, rels ...string) {
	t.Helper()
	m, n := costsOfText(p), costsOfText(q)
	wantTruth(t, "NeverDearer of "+p+" and "+q, impl.NeverDearer(p, q), m.neverDearer(n))
	wantTruth(t, "NeverDearer of "+q+" and "+p, impl.NeverDearer(q, p), n.neverDearer(m))
	for _, pre := range rels {
		gap, kind := modelGap(pre, m, n)
		wantGap(t, pre, p, q, gap, kind)
	}
}

// costlyProgram returns a program in which most statements cost something, with loops
// within loops and with choices of parts that cost more or less.
func costlyProgram(seed *uint32, depth int) string {
	*seed = *seed*1664525 + 1013904223
	n := *seed >> 8
	flat := []string{"ax+x1", "ay+y1", "az+z1", "ax1", "ay0", "s", "axx", "az*zy", "ay-x1", ";ax0ax1", "az2", "s", "~!=xy", "ax+xy", ";axxayy", "~t"}
	tests := []string{"<x2", "!=y2", "<z2", "|<x2<y2", "=x0", "!=xy", "=y1", "t", "!=z*xy", "&=x2=y2"}
	test := tests[n>>4%uint32(len(tests))]
	switch kind := n % 8; {
	case depth == 0:
		return flat[n>>4%uint32(len(flat))]
	case kind == 0:
		return "@" + test + costlyProgram(seed, depth-1)
	case kind == 1:
		return "@" + test + "/" + costlyProgram(seed, depth-1) + costlyProgram(seed, depth-1)
	case kind < 4:
		return "/" + costlyProgram(seed, depth-1) + costlyProgram(seed, depth-1)
	case kind == 4:
		return "?" + test + costlyProgram(seed, depth-1) + costlyProgram(seed, depth-1)
	}
	return ";" + costlyProgram(seed, depth-1) + costlyProgram(seed, depth-1)
}

// costlyPrograms returns such programs, from small ones on.
func costlyPrograms(each int) []string {
	seed := uint32(1212)
	var list []string
	for depth := 1; depth <= 5; depth++ {
		for range each {
			if p := costlyProgram(&seed, depth); len(p) <= 200 {
				list = append(list, p)
			}
		}
	}
	return list
}

// roundPrograms returns programs that may go round at a cost, from some states or from
// all, and end.
func roundPrograms() []string {
	return []string{
		"@=x0/ax0ax1", "@<x2/ax+x1ax0", "@<y2/ay+y1ay0", "/ax1@=x0/ax0ax2", "@=x0/ax1;ax2@=x2/ay1ax1", ";~=x1@=x1/ax1ax2", "@!=z2/;az0ay+y1az2", ";@=x0/ax0ax1@=x1/ax1ax2", "@=x0/ay+y1ax1", "@=x0/@=y0ay1/ay0ax1",
		"?=x0~f@=y2/ay2ay0", "/s@=z1/az1az2", "?&=x2&=y2=z2@=x2/ax2ax1s", "@<x2;ax+x1;ay0@=y0/ay0ay1", ";ax0;@=x0/ax0ax1/s~f", "@!=xy/ax+x1ay+y1", "@<z2/az+z1/@ts;az0ax+x1", "?<xy@=z0/az0az1;ax1ax1",
	}
}

// fullCostlyPrograms returns programs of just 200 bytes, with many loops and choices.
func fullCostlyPrograms(count int) []string {
	seed := uint32(7)
	list := []string{
		strings.Repeat("@=x0", 47) + "/ax+y1s", strings.Repeat("/ax1", 49) + ";~ts", strings.Repeat("/s@=x0", 32) + "/ax1~f", strings.Repeat("@t/~f", 39) + ";axxs", strings.Repeat("@=x0/s", 31) + "/ax1ax2",
		strings.Repeat(";/axxs", 31) + "@<x2ax+x1", strings.Repeat(";axx", 49) + "~=x1", strings.Repeat(";@=y0/say1", 19) + "ax+x1", strings.Repeat(";/s;axxayy", 19) + "/ss",
		countingLoop(";axx", 39), countingLoop(";/axxs", 26), countingLoop(";/axx@=x1s", 14),
	}
	for len(list) < count {
		p := costlyProgram(&seed, 5)
		if strings.Count(p, "@") >= 4 && strings.Count(p, "/") >= 4 && len(p) > 120 && len(p) <= 194 {
			list = append(list, p)
		}
	}
	for n, p := range list {
		if len(p) < 200 {
			list[n] = padded(p)
		}
	}
	return list
}

// countingLoop goes through all states in the order of their numbers, from 000 to 222
// in 26 turns, in which it executes 36 assignments, and each time a text so often.
func countingLoop(within string, times int) string {
	return "@!&=x2&=y2=z2" + strings.Repeat(within, times) + "?<x2ax+x1;ax0?<y2ay+y1;ay0az+z1"
}
