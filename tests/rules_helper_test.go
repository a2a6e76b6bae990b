package tests

import (
	"fmt"
	"math"
	"slices"
	"strconv"
	"strings"
	"testing"

	"loop.example/productprograms/impl"
)

// A model of rules that reads programs as texts and relations byte by byte, and a
// source of derivations of any form.

// ruleNeeds returns how many lines each rule needs.
func ruleNeeds() map[string]int {
	return map[string]int{"set": 0, "run": 0, "weak": 1, "seq": 2, "split": 2, "if": 4, "left": 2, "right": 2, "while": 1}
}

// lineOf reads a line that is written as its rule, a wide test, two programs, a
// wide test, and its Refs.
func lineOf(text string) impl.Line {
	f := strings.Fields(text)
	l := impl.Line{Rule: f[0], Pre: modelRelOf(f[1]), P: f[2], Q: f[3], Post: modelRelOf(f[4])}
	for _, ref := range f[5:] {
		n, _ := strconv.Atoi(ref)
		l.Refs = append(l.Refs, n)
	}
	return l
}

func linesOf(texts ...string) []impl.Line {
	var list []impl.Line
	for _, text := range texts {
		list = append(list, lineOf(text))
	}
	return list
}

// copyOf returns the same lines in other memory.
func copyOf(list []impl.Line) []impl.Line {
	list = slices.Clone(list)
	for i := range list {
		list[i].Refs = slices.Clone(list[i].Refs)
	}
	return list
}

func sameLine(a, b impl.Line) bool {
	return a.Rule == b.Rule && slices.Equal(a.Refs, b.Refs) && sameClaim(a, b)
}

func sameClaim(a, b impl.Line) bool {
	return a.Pre == b.Pre && a.P == b.P && a.Q == b.Q && a.Post == b.Post
}

func modelAnd(r, q string) string {
	return modelRel(func(i, j int) bool { return inRel(r, i, j) && inRel(q, i, j) })
}

func modelOr(r, q string) string {
	return modelNot(modelAnd(modelNot(r), modelNot(q)))
}

func modelIsRel(r string) bool { return len(r) == 729 && strings.Trim(r, "01") == "" }

// modelLineValid does not look at the numbers that Refs are.
func modelLineValid(l impl.Line) bool {
	needs, known := ruleNeeds()[l.Rule]
	_, isLeft := modelOf(l.P)
	_, isRight := modelOf(l.Q)
	return known && len(l.Refs) == needs && modelIsRel(l.Pre) && modelIsRel(l.Post) && isLeft && isRight
}

// testsOf returns the relations that the chapter calls T and U, those of all
// pairs if there are no tests.
func testsOf(p, q string) (string, string) {
	t, u := everyPair, everyPair
	if strings.Contains("?@", p[:1]) {
		m, _, _ := readModel(p)
		t = modelRelOf(m.head)
	}
	if strings.Contains("?@", q[:1]) {
		m, _, _ := readModel(q)
		u = modelRelOf(raised(m.head))
	}
	return t, u
}

// partOf returns a part of a program, or the whole program for the number -1.
func partOf(p string, number int) string {
	m, _, _ := readModel(p)
	if number < 0 {
		return p
	}
	return m.parts[number]
}

// A modelBranch tells of a line that a rule asks for: the numbers of the parts, and
// the pairs of Pre that it has.
type modelBranch struct {
	left, right int
	where       string
}

// branchesOf returns what the rules if, left and right ask for, in their order.
func branchesOf(rule, p, q string) []modelBranch {
	t, u := testsOf(p, q)
	notT, notU := modelNot(t), modelNot(u)
	switch rule {
	case "if":
		return []modelBranch{{0, 0, modelAnd(t, u)}, {0, 1, modelAnd(t, notU)}, {1, 0, modelAnd(notT, u)}, {1, 1, modelAnd(notT, notU)}}
	case "left":
		return []modelBranch{{0, -1, t}, {1, -1, notT}}
	}
	return []modelBranch{{-1, 0, u}, {-1, 1, notU}}
}

// modelFollows reports whether a line follows from those before it.
func modelFollows(before []impl.Line, l impl.Line) bool {
	if !modelLineValid(l) || len(before) > 59 {
		return false
	}
	var named []impl.Line
	for _, ref := range l.Refs {
		if ref < 0 || ref > len(before)-1 || !modelLineValid(before[ref]) {
			return false
		}
		named = append(named, before[ref])
	}
	return modelByRule(named, l)
}

func modelByRule(named []impl.Line, l impl.Line) bool {
	is := func(n int, pre, p, q, post string) bool {
		return sameClaim(named[n], impl.Line{Pre: pre, P: p, Q: q, Post: post})
	}
	kinds := l.P[:1] + l.Q[:1]
	switch l.Rule {
	case "set":
		return strings.Trim(kinds, "as") == "" && l.Pre == duoOf(l.P, l.Q).free(l.Post)
	case "run":
		return modelWithin(l.Pre, duoOf(l.P, l.Q).free(l.Post))
	case "weak":
		return named[0].P == l.P && named[0].Q == l.Q && modelWithin(l.Pre, named[0].Pre) && modelWithin(named[0].Post, l.Post)
	case "seq":
		between := named[1].Pre
		return kinds == ";;" && is(0, l.Pre, partOf(l.P, 0), partOf(l.Q, 0), between) && is(1, between, partOf(l.P, 1), partOf(l.Q, 1), l.Post)
	case "split":
		between := named[1].Pre
		return is(0, l.Pre, l.P, "s", between) && is(1, between, "s", l.Q, l.Post)
	case "if", "left", "right":
		if l.Rule != "right" && kinds[0] != '?' || l.Rule != "left" && kinds[1] != '?' {
			return false
		}
		for n, b := range branchesOf(l.Rule, l.P, l.Q) {
			if !is(n, modelAnd(l.Pre, b.where), partOf(l.P, b.left), partOf(l.Q, b.right), l.Post) {
				return false
			}
		}
		return true
	}
	if kinds != "@@" {
		return false
	}
	t, u := testsOf(l.P, l.Q)
	for k := range l.Pre {
		if l.Pre[k] == '1' && t[k] != u[k] {
			return false
		}
	}
	return l.Post == modelAnd(l.Pre, modelNot(t)) && is(0, modelAnd(l.Pre, t), partOf(l.P, 0), partOf(l.Q, 0), l.Pre)
}

// modelDerivation reports whether each line follows from those before it.
func modelDerivation(list []impl.Line) bool {
	for i, l := range list {
		if !modelFollows(list[:i], l) {
			return false
		}
	}
	return true
}

// modelCountBuilt returns how many lines BuildDerivation has to build.
func modelCountBuilt(p, q string) int {
	switch p[:1] + q[:1] {
	case ";;":
		return modelCountBuilt(partOf(p, 0), partOf(q, 0)) + modelCountBuilt(partOf(p, 1), partOf(q, 1)) + 1
	case "??":
		count := 5
		for n := range 4 {
			count += modelCountBuilt(partOf(p, n/2), partOf(q, n%2))
		}
		return count
	}
	return 1
}

// modelBuild returns the lines of BuildDerivation, whatever their number is, with
// Refs of which the first line has the number from.
func modelBuild(from int, p, q, post string) []impl.Line {
	top := impl.Line{Rule: "run", Pre: duoOf(p, q).free(post), P: p, Q: q, Post: post}
	kinds := p[:1] + q[:1]
	var list []impl.Line
	// lastOf adds lines and returns the last one, and its number.
	lastOf := func(lines []impl.Line) (impl.Line, int) {
		list = append(list, lines...)
		return list[len(list)-1], from + len(list) - 1
	}
	switch {
	case kinds == ";;":
		behind, second := lastOf(modelBuild(from, partOf(p, 1), partOf(q, 1), post))
		_, first := lastOf(modelBuild(from+len(list), partOf(p, 0), partOf(q, 0), behind.Pre))
		top.Rule, top.Refs = "seq", []int{first, second}
	case kinds == "??":
		top.Rule = "if"
		for _, b := range branchesOf("if", p, q) {
			l, n := lastOf(modelBuild(from+len(list), partOf(p, b.left), partOf(q, b.right), post))
			l.Rule, l.Pre, l.Refs = "weak", modelAnd(l.Pre, b.where), []int{n}
			_, n = lastOf([]impl.Line{l})
			top.Refs = append(top.Refs, n)
		}
	case strings.Trim(kinds, "as") == "":
		top.Rule = "set"
	}
	return append(list, top)
}

// isTrue reports whether what a line says is true, whatever it follows from.
func isTrue(l impl.Line) bool {
	return modelWithin(l.Pre, duoOf(l.P, l.Q).free(l.Post))
}

// A modelStep is a line, and the lines before it.
type modelStep struct {
	before []impl.Line
	line   impl.Line
}

// stepOf returns the step of the last line.
func stepOf(list []impl.Line) modelStep {
	last := len(list) - 1
	return modelStep{list[:last], list[last]}
}

// with returns the step with a change of one line, by its number.
func (s modelStep) with(at int, change func(l *impl.Line)) modelStep {
	list := copyOf(append(slices.Clone(s.before), s.line))
	change(&list[at])
	return stepOf(list)
}

// otherRels returns relations that differ from one in one pair, and from one pair to
// the next, and others.
func otherRels(r string) []string {
	list := []string{}
	for _, k := range []int{0, 1, 27, 28, 111, 364, 400, 555, 701, 728} {
		list = append(list, otherwise(r, k))
	}
	for _, q := range []string{noPairs, everyPair, equalPairs, modelTurn(r), modelNot(r)} {
		if q != r {
			list = append(list, q)
		}
	}
	return list
}

// otherPrograms returns programs that are not the same text, some of which do the
// same.
func otherPrograms(p string) []string {
	var list []string
	for _, q := range []string{"s", "ax1", ";ss", ";s" + p, ";" + p + "s", "/" + p + p, "?t" + p + "s", modelSwap(p, "x", "y"), modelSwap(p, "y", "z")} {
		if q != p {
			list = append(list, q)
		}
	}
	return list
}

// otherRefs returns numbers that differ in one thing: how many there are, their
// order, or one of them.
func (s modelStep) otherRefs() [][]int {
	refs := s.line.Refs
	list := [][]int{append(slices.Clone(refs), 0), append([]int{0}, refs...)}
	for i := range refs {
		list = append(list, slices.Delete(slices.Clone(refs), i, i+1))
		for _, n := range []int{-1, len(s.before), len(s.before) + 1, 60, -len(s.before), math.MinInt, math.MaxInt} {
			changed := slices.Clone(refs)
			changed[i] = n
			if !slices.Equal(changed, refs) {
				list = append(list, changed)
			}
		}
		for j := range i {
			changed := slices.Clone(refs)
			changed[i], changed[j] = changed[j], changed[i]
			if !sameClaim(s.before[refs[i]], s.before[refs[j]]) {
				list = append(list, changed)
			}
		}
	}
	return list
}

// changes returns the steps that differ from one in one thing alone, of the line
// or of a line that it names, but not in the name of the rule.
func (s modelStep) changes() []modelStep {
	var list []modelStep
	for _, at := range append(slices.Clone(s.line.Refs), len(s.before)) {
		l := append(slices.Clone(s.before), s.line)[at]
		for _, r := range otherRels(l.Pre) {
			list = append(list, s.with(at, func(l *impl.Line) { l.Pre = r }))
		}
		for _, r := range otherRels(l.Post) {
			list = append(list, s.with(at, func(l *impl.Line) { l.Post = r }))
		}
		for _, p := range otherPrograms(l.P) {
			list = append(list, s.with(at, func(l *impl.Line) { l.P = p }))
		}
		for _, q := range otherPrograms(l.Q) {
			list = append(list, s.with(at, func(l *impl.Line) { l.Q = q }))
		}
	}
	for _, refs := range s.otherRefs() {
		list = append(list, s.with(len(s.before), func(l *impl.Line) { l.Refs = refs }))
	}
	return list
}

// shownLines returns lines with a number in place of each relation: that of its
// pairs.
func shownLines(list []impl.Line) string {
	var shown []string
	for _, l := range list {
		shown = append(shown, fmt.Sprintf("%.20q {%d} %.200q %.200q {%d} %v", l.Rule, strings.Count(l.Pre, "1"), l.P, l.Q, strings.Count(l.Post, "1"), l.Refs))
	}
	return strings.Join(shown, "; ")
}

func shownStep(s modelStep) string {
	return shownLines(s.before) + " before " + shownLines([]impl.Line{s.line})
}

func wantFollows(t *testing.T, s modelStep, want bool) {
	t.Helper()
	if got := impl.LineFollows(s.before, s.line); got != want {
		t.Errorf("LineFollows of %s = %v", shownStep(s), got)
	}
}

func wantDerivation(t *testing.T, list []impl.Line, want bool) {
	t.Helper()
	if got := impl.DerivationHolds(list); got != want {
		t.Errorf("DerivationHolds(%s) = %v", shownLines(list), got)
	}
}

// A modelProver derives triples by rules that it chooses.
type modelProver struct {
	seed  uint32
	lines []impl.Line
	// Within loops, no pairs are left out, as few would be kept.
	exact bool
}

// choose returns a number below another one.
func (m *modelProver) choose(n int) int {
	m.seed = m.seed*1664525 + 1013904223
	return int(m.seed >> 10 % uint32(n))
}

// fewer leaves out some pairs of a relation, or none.
func (m *modelProver) fewer(r string) string {
	if m.exact || m.choose(2) == 0 {
		return r
	}
	return modelAnd(r, modelNot(scattered(m.seed, uint32(2+m.choose(200)))))
}

// add adds a line and returns its number.
func (m *modelProver) add(rule, pre, p, q, post string, refs ...int) int {
	m.lines = append(m.lines, impl.Line{Rule: rule, Pre: pre, P: p, Q: q, Post: post, Refs: refs})
	return len(m.lines) - 1
}

// prove adds lines, the last of which tells of both programs and a relation behind
// them, and returns its number.
func (m *modelProver) prove(p, q, post string, depth int) int {
	free := duoOf(p, q).free(post)
	rules := []string{"run", "weak", "split"}
	if strings.Trim(p[:1]+q[:1], "as") == "" {
		rules = append(rules, "set")
	}
	// Rules for two programs of one kind are chosen more often than others.
	own := map[string][]string{";;": {"seq"}, "??": {"if"}, "@@": {"while"}}[p[:1]+q[:1]]
	rules = append(rules, own...)
	rules = append(rules, own...)
	if p[:1] == "?" {
		rules = append(rules, "left")
	}
	if q[:1] == "?" {
		rules = append(rules, "right")
	}
	rule := rules[m.choose(len(rules))]
	switch {
	case rule == "set":
		return m.add(rule, free, p, q, post)
	case rule == "run" || depth == 0:
		return m.add("run", m.fewer(free), p, q, post)
	case rule == "weak":
		n := m.prove(p, q, m.fewer(post), depth-1)
		return m.add(rule, m.fewer(m.lines[n].Pre), p, q, post, n)
	case rule == "split":
		second := m.prove("s", q, post, depth-1)
		first := m.prove(p, "s", m.lines[second].Pre, depth-1)
		return m.add(rule, m.lines[first].Pre, p, q, post, first, second)
	case rule == "seq":
		second := m.prove(partOf(p, 1), partOf(q, 1), post, depth-1)
		first := m.prove(partOf(p, 0), partOf(q, 0), m.lines[second].Pre, depth-1)
		return m.add(rule, m.lines[first].Pre, p, q, post, first, second)
	case rule == "while":
		return m.proveLoops(p, q, post, depth)
	}
	return m.proveBranches(rule, p, q, post, depth)
}

func (m *modelProver) proveBranches(rule, p, q, post string, depth int) int {
	pre := noPairs
	var refs []int
	for _, b := range branchesOf(rule, p, q) {
		n := m.prove(partOf(p, b.left), partOf(q, b.right), post, depth-1)
		less := modelAnd(m.lines[n].Pre, b.where)
		refs = append(refs, m.add("weak", less, m.lines[n].P, m.lines[n].Q, post, n))
		pre = modelOr(pre, less)
	}
	return m.add(rule, pre, p, q, post, refs...)
}

// proveLoops leaves out pairs until the bodies keep those that are left.
func (m *modelProver) proveLoops(p, q, post string, depth int) int {
	defer func(exact bool) { m.exact = exact }(m.exact)
	m.exact = true
	t, u := testsOf(p, q)
	turning, leaving := modelAnd(t, u), modelAnd(modelNot(t), modelNot(u))
	kept := modelOr(turning, modelAnd(leaving, post))
	for before := len(m.lines); ; m.lines = m.lines[:before] {
		n := m.prove(partOf(p, 0), partOf(q, 0), kept, depth-1)
		less := modelAnd(kept, modelOr(leaving, m.lines[n].Pre))
		if less == kept {
			n = m.add("weak", modelAnd(kept, turning), m.lines[n].P, m.lines[n].Q, kept, n)
			n = m.add("while", kept, p, q, modelAnd(kept, leaving), n)
			return m.add("weak", kept, p, q, post, n)
		}
		kept = less
	}
}

// programsToDerive returns pairs of programs, many of which are of the same form.
func programsToDerive() [][2]string {
	list := [][2]string{
		{";ax1s", ";ax2s"}, {"?=x1ax2s", "?=x1ax2s"}, {"@=x1ax+x1", "@=x1ax2"}, {"@<x2ax+x1", "@<x2ax+x1"}, {"@<x2;ax+x1ay0", "@<x2;ay0ax+x1"}, {"@<x2?=y0ax+x1ax2", "@<x2?=y0ax+x1ax2"}, {"@<x2/ax+x1ax2", "@<x2ax+x1"}, {"@!=x2@<x1ax+x1", "@!=x2@<y1ay+y1"},
		{"?=x0?=y0saz1;saz2", "?=x0?=z0ay1say2"}, {"?<xy;ax0az1s", "?<xy;ax0az1s"}, {"?=x0?=y0ssay1", "ax1"}, {"s", "?=x0?=y0ssay1"}, {"?=x0~=y1s", "?=y0~fay2"}, {";;ax1ay+yx;az0s", ";;ax1ay+yx;az0s"}, {";@<x2ax+x1?=y0say0", ";@<x2ax+x1?=y0say0"}, {";?=x0ax1s@<y2ay+y1", ";?=x0sax0@<y2ay+y1"},
	}
	ifs := []string{"?=x0ax1ay2", "?<xysaz0", "?=z1~=x0@<x2ax+x1", "?=y0?=x0ssay1", "?=x0?=y0ss?=z0ss", "?<yz;ax1ay1/sax0", "?=x0?<yzsax1?<yzay1s"}
	for n, p := range ifs {
		q := modelSwap(ifs[(n+3)%len(ifs)], "x", "y")
		list = append(list, [2]string{p, p}, [2]string{p, q}, [2]string{";" + p + q, ";" + q + p}, [2]string{"?=xy" + p + q, "?=y2" + q + p}, [2]string{"@<x2" + p, "@!=x2" + q}, [2]string{"@=y0;" + p + "ay1", "@=y0;" + q + "ay1"}, [2]string{p, "ay+y1"}, [2]string{"@<x2ax+x1", q})
	}
	for n, both := range somePairsOfPrograms(19) {
		other := []string{both[1], both[0], modelSwap(both[0], "x", "z")}[n%3]
		list = append(list, [2]string{both[0], other})
	}
	return list
}
