package tests

import (
	"strings"

	"loop.example/productprograms/impl"
)

// A model of wide programs that takes single pairs of states through trees of
// statements, and a model of products that cuts and joins texts.

// lowered puts the letters of the first state in place of those of the second
// one, so that the text of a wide program becomes one of the same form that the
// other models can read. It keeps its length.
func lowered(w string) string {
	return strings.NewReplacer("X", "x", "Y", "y", "Z", "z").Replace(w)
}

// raised puts the letters of the second state in place of those of the first one.
func raised(p string) string {
	return strings.NewReplacer("x", "X", "y", "Y", "z", "Z").Replace(p)
}

// modelMirror exchanges the letters of both states.
func modelMirror(w string) string {
	return strings.NewReplacer("x", "X", "y", "Y", "z", "Z", "X", "x", "Y", "y", "Z", "z").Replace(w)
}

func modelWideProgram(w string) bool {
	if len(w) > 1000 {
		return false
	}
	_, rest, ok := readModel(lowered(w))
	return ok && rest == ""
}

// wideTree returns the tree of a valid wide program.
func wideTree(w string) *modelNode {
	n, _ := wideNode(w, lowered(w), 0)
	return n
}

// wideNode returns the statement that begins at an index, and the index behind
// it. It reads the lowered text, and cuts the other one.
func wideNode(w, low string, from int) (*modelNode, int) {
	letter, behind := low[from:from+1], low[from+1:]
	switch letter {
	case "a":
		_, behind, _ = modelExpr(behind[1:], impl.State{})
	case "?", "@", "~":
		_, behind, _ = modelTest(behind, impl.State{})
	}
	at := len(low) - len(behind)
	n := &modelNode{letter: letter, head: w[from+1 : at]}
	for range map[string]int{";": 2, "?": 2, "@": 1, "/": 2}[letter] {
		var part *modelNode
		part, at = wideNode(w, low, at)
		n.parts = append(n.parts, part)
	}
	return n, at
}

// shownWide returns a tree in the usual form.
func shownWide(n *modelNode) string {
	var parts []string
	for _, part := range n.parts {
		parts = append(parts, shownWide(part))
	}
	return modelForm(n.letter, n.head, parts)
}

// A modelPair is a pair of states.
type modelPair struct{ s, t impl.State }

func (at modelPair) index() int { return 27*numberOf(at.s) + numberOf(at.t) }

func allPairs() []modelPair {
	var list []modelPair
	for _, s := range allStates() {
		for _, t := range allStates() {
			list = append(list, modelPair{s, t})
		}
	}
	return list
}

// A wideOutcome tells what runs from a pair may come to.
type wideOutcome struct {
	finals map[modelPair]bool
	loops  bool
	blocks bool
}

func (o *wideOutcome) add(other wideOutcome) {
	for to := range other.finals {
		o.finals[to] = true
	}
	o.loops = o.loops || other.loops
	o.blocks = o.blocks || other.blocks
}

func (o wideOutcome) relation() string {
	text := []byte(noPairs)
	for to := range o.finals {
		text[to.index()] = '1'
	}
	return string(text)
}

// A wideModel remembers what each statement may come to from each pair.
type wideModel struct {
	known map[*modelNode]map[modelPair]wideOutcome
}

func newWideModel() *wideModel {
	return &wideModel{map[*modelNode]map[modelPair]wideOutcome{}}
}

// runsPairModel returns the result that RunsPair is to have.
func runsPairModel(w string, s, t impl.State) impl.PairResult {
	o := newWideModel().from(wideTree(w), modelPair{s, t})
	return impl.PairResult{Finals: o.relation(), Loops: o.loops, Blocks: o.blocks}
}

func (m *wideModel) from(n *modelNode, at modelPair) wideOutcome {
	if o, ok := m.known[n][at]; ok {
		return o
	}
	o := m.come(n, at)
	if m.known[n] == nil {
		m.known[n] = map[modelPair]wideOutcome{}
	}
	m.known[n][at] = o
	return o
}

func wideIsTrue(n *modelNode, at modelPair) bool {
	is, _, _ := modelTest(modelNarrow(n.head, at.t), at.s)
	return is
}

func wideAssign(n *modelNode, at modelPair) modelPair {
	value, _, _ := modelExpr(modelNarrow(n.head[1:], at.t), at.s)
	if v := n.head[:1]; v == lowered(v) {
		at.s = modelWith(at.s, v, value)
	} else {
		at.t = modelWith(at.t, lowered(v), value)
	}
	return at
}

func (m *wideModel) come(n *modelNode, at modelPair) wideOutcome {
	o := wideOutcome{finals: map[modelPair]bool{}}
	switch n.letter {
	case "s":
		o.finals[at] = true
	case "a":
		o.finals[wideAssign(n, at)] = true
	case "~":
		if wideIsTrue(n, at) {
			o.finals[at] = true
		} else {
			o.blocks = true
		}
	case "?":
		if wideIsTrue(n, at) {
			return m.from(n.parts[0], at)
		}
		return m.from(n.parts[1], at)
	case "/":
		o.add(m.from(n.parts[0], at))
		o.add(m.from(n.parts[1], at))
	case ";":
		first := m.from(n.parts[0], at)
		o.loops, o.blocks = first.loops, first.blocks
		for between := range first.finals {
			o.add(m.from(n.parts[1], between))
		}
	case "@":
		m.turn(n, at, &o)
	}
	return o
}

// turn takes a pair through all turns of a loop.
func (m *wideModel) turn(n *modelNode, at modelPair, o *wideOutcome) {
	leads := map[modelPair]map[modelPair]bool{}
	open := []modelPair{at}
	for len(open) > 0 {
		head := open[0]
		open = open[1:]
		if _, known := leads[head]; known {
			continue
		}
		leads[head] = nil
		if !wideIsTrue(n, head) {
			o.finals[head] = true
			continue
		}
		body := m.from(n.parts[0], head)
		o.loops, o.blocks = o.loops || body.loops, o.blocks || body.blocks
		leads[head] = body.finals
		for to := range body.finals {
			open = append(open, to)
		}
	}
	o.loops = o.loops || !allRunOut(leads)
}

// allRunOut takes away what leads only to what has been taken away, and reports
// whether nothing is left.
func allRunOut(leads map[modelPair]map[modelPair]bool) bool {
	for before := len(leads) + 1; len(leads) < before; {
		before = len(leads)
		for head, next := range leads {
			left := false
			for to := range next {
				_, there := leads[to]
				left = left || there
			}
			if !left {
				delete(leads, head)
			}
		}
	}
	return len(leads) == 0
}

// freeModel returns what WideFree of a wide program is to return: the pairs from
// which no run ends outside of a relation.
func freeModel(w string) func(post string) string {
	m, n := newWideModel(), wideTree(w)
	var finals [729]map[modelPair]bool
	for k, at := range allPairs() {
		finals[k] = m.from(n, at).finals
	}
	return func(post string) string {
		return modelRel(func(i, j int) bool {
			for to := range finals[27*i+j] {
				if post[to.index()] == '0' {
					return false
				}
			}
			return true
		})
	}
}

// modelLockstep puts two texts side by side as the chapter tells.
func modelLockstep(p, q string) string {
	m, _, _ := readModel(p)
	o, _, _ := readModel(q)
	t, u := m.head, raised(o.head)
	switch p[:1] + q[:1] {
	case ";;":
		return ";" + modelLockstep(m.parts[0], o.parts[0]) + modelLockstep(m.parts[1], o.parts[1])
	case "??":
		return "?" + t +
			"?" + u + modelLockstep(m.parts[0], o.parts[0]) + modelLockstep(m.parts[0], o.parts[1]) +
			"?" + u + modelLockstep(m.parts[1], o.parts[0]) + modelLockstep(m.parts[1], o.parts[1])
	case "@@":
		return "@|" + t + u + "?" + t + "?" + u + modelLockstep(m.parts[0], o.parts[0]) + m.parts[0] + raised(o.parts[0])
	}
	return ";" + p + raised(q)
}

// modelStatements returns the statements of a text that are executed in sequence.
func modelStatements(p string) []string {
	if p[:1] != ";" {
		return []string{p}
	}
	m, _, _ := readModel(p)
	return append(modelStatements(m.parts[0]), modelStatements(m.parts[1])...)
}

// modelAlign takes statements as a plan tells, whatever the length is.
func modelAlign(p, q, plan string) (string, bool) {
	left, right := modelStatements(p), modelStatements(q)
	product := ""
	for i := range plan {
		step := plan[i : i+1]
		if !strings.Contains("lrb", step) || step != "r" && len(left) == 0 || step != "l" && len(right) == 0 {
			return "", false
		}
		if i < len(plan)-1 {
			product += ";"
		}
		switch step {
		case "l":
			product += left[0]
		case "r":
			product += raised(right[0])
		case "b":
			product += modelLockstep(left[0], right[0])
		}
		if step != "r" {
			left = left[1:]
		}
		if step != "l" {
			right = right[1:]
		}
	}
	return product, plan != "" && len(left)+len(right) == 0
}

// allPlans returns all plans that take a number of statements of either program.
func allPlans(left, right int) []string {
	if left < 0 || right < 0 {
		return nil
	}
	if left+right == 0 {
		return []string{""}
	}
	var list []string
	for _, rest := range allPlans(left-1, right) {
		list = append(list, "l"+rest)
	}
	for _, rest := range allPlans(left, right-1) {
		list = append(list, "r"+rest)
	}
	for _, rest := range allPlans(left-1, right-1) {
		list = append(list, "b"+rest)
	}
	return list
}

// onePlan returns a plan that takes a number of statements of either program.
func onePlan(seed *uint32, left, right int) string {
	plan := ""
	for left+right > 0 {
		*seed = *seed*1664525 + 1013904223
		switch step := *seed >> 16 % 3; {
		case step == 0 && left > 0:
			plan, left = plan+"l", left-1
		case step == 1 && right > 0:
			plan, right = plan+"r", right-1
		case step == 2 && left > 0 && right > 0:
			plan, left, right = plan+"b", left-1, right-1
		}
	}
	return plan
}

// fits returns a text of at most 1000 bytes and true, and otherwise the empty
// text and false.
func fits(product string, ok bool) (string, bool) {
	if !ok || len(product) > 1000 {
		return "", false
	}
	return product, true
}

// endsOf returns the pairs of final states of two programs, which run each for
// itself.
func endsOf(p, q string, s, t impl.State) string {
	left, _ := impl.RunsFrom(p, s)
	right, _ := impl.RunsFrom(q, t)
	// Each row is all final states of the second program, or none.
	return strings.NewReplacer("1", right.Finals, "0", noStates).Replace(left.Finals)
}

// A statement of each kind and form, and those that are not all of one kind.
func programsOfEveryKind() []string {
	return []string{
		"s", "ax+x1", "ay-zy", "~<x2", "~!=yz", "~f", ";ax+x1ay+yx", ";~=x0az2", ";;sax0ay1", ";az1;/sax1~<xz",
		"?=xyax+x1az2", "?<zy~f/ay0ay2", "?!=x0?=y1sax0;ax1ay2", "@<x2ax+x1", "@<x2;ax+x1ay+y1", "@!=y2/ay+y1ay0", "@<x1~=y1", "@=z0s", "@tax+x1",
		"@<y2;ay+y1@<x2ax+x1", "@<z2?=xy;az+z1ax0az2", "/ax0ax1", "/s~f", "/@tsaz1", "/ax+x1/ay1ay2",
	}
}

// mixedWide puts the letters of the second state in place of some of a program,
// none, or all.
func mixedWide(p string, seed uint32) string {
	mixed := []byte(p)
	for i, letter := range mixed {
		seed = seed*1664525 + 1013904223
		if strings.Contains("xyz", string(rune(letter))) && seed>>20%4 < seed>>28%5 {
			mixed[i] = raised(p[i : i+1])[0]
		}
	}
	return string(mixed)
}

// widePrograms returns wide programs of every form, with letters of one state
// alone, of both, and with none.
func widePrograms() []string {
	list := []string{
		"s", "axX", "aXx", "aX+X1", "ax1", "aZ0", "ay-Yy", "~=xX", "~<Xx", "~t", "~f", ";ax1aXx", ";axXaXx", "?=xXsaX+X1", "?<xXaX0ax0", "/axXaXx", "/sax+X1",
		"@<xXaX+X1", "@<Xxax-x1", "@=xX/sax+x1", "@!=xX/ax+x1aX+X1", "@<zZ;az+z1/saZ0", "@ts", "@fs", "@t~f", "@=xXs", "@!&=xX&=yY=zZ;/ax+x1s;/ay+y1saz+z1",
		"@<xX@<yYay+y1", "@<xX;ax+x1@<yYay+y1", "?=x0~fs", ";~fax1", ";@tsaX1", "/@ts~f", "/~f@<xXaX0", ";/ax0/ax1ax2;/aX0aX1~<xX",
	}
	for n, p := range append(programsOfEveryKind(), movingPrograms()[:400]...) {
		list = append(list, p, mixedWide(p, uint32(n)), mixedWide(p, uint32(n+7000)))
	}
	return list
}

// fewWidePrograms returns some of them, from one on that depends on a number.
func fewWidePrograms(from, step int) []string {
	var list []string
	for i, w := range widePrograms() {
		if i%step == from || i < 33 {
			list = append(list, w)
		}
	}
	return list
}

// fullWidePrograms returns wide programs of just 1000 bytes.
func fullWidePrograms() []string {
	return []string{
		"~" + strings.Repeat("!", 998) + "t",
		"~" + strings.Repeat("!", 996) + "=xX",
		"~=X" + longSum(997),
		"@" + strings.Repeat("!", 997) + "fs",
		"@" + strings.Repeat("!", 995) + "=zZs",
		"?" + strings.Repeat("!", 992) + "=xYsaZ2",
		strings.Repeat(";", 499) + strings.Repeat("s", 499) + "~t",
		strings.Repeat(";s", 499) + "~f",
		strings.Repeat("/", 499) + "~t" + strings.Repeat("s", 499),
		strings.Repeat("@t", 499) + "~t",
		strings.Repeat("@=xX", 249) + ";s~t",
		strings.Repeat("?<xXs", 199) + "aX+X1",
		strings.Repeat("?=xX", 199) + "~<xX" + strings.Repeat("s", 198) + "~t",
		"/" + strings.Repeat("@t", 248) + "s" + strings.Repeat(";", 250) + strings.Repeat("s", 250) + "~f",
		";aX" + longSum(995) + "~t",
		";~=xXay" + longSum(993),
	}
}
