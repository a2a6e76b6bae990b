package tests

import (
	"strings"

	"loop.example/productprograms/impl"
)

// Two models of runs that share nothing with the program, nor with each other:
// one executes a tree of statements by recursion, and the other one composes
// what each statement may come to from every state.

// A modelNode is a statement of a tree.
type modelNode struct {
	letter string
	head   string
	parts  []*modelNode
}

// modelTree returns the tree of a valid program.
func modelTree(p string) *modelNode {
	m, _, _ := readModel(p)
	n := &modelNode{letter: p[:1], head: m.head}
	for _, part := range m.parts {
		n.parts = append(n.parts, modelTree(part))
	}
	return n
}

func (n *modelNode) isTrue(s impl.State) bool {
	is, _, _ := modelTest(n.head, s)
	return is
}

func (n *modelNode) assign(s impl.State) impl.State {
	value, _, _ := modelExpr(n.head[1:], s)
	return modelWith(s, n.head[:1], value)
}

// A modelRun is a run that is executed, with the picks that are left.
type modelRun struct {
	s     impl.State
	picks string
	steps int
	cost  int
	most  int
	code  int
}

func replayModel(n *modelNode, s impl.State, picks string, most int) modelRun {
	r := modelRun{s: s, picks: picks, most: most, code: impl.RunDone}
	r.execute(n)
	return r
}

func (r *modelRun) step() bool {
	if r.steps == r.most {
		r.code = impl.RunBusy
		return false
	}
	r.steps++
	return true
}

// execute reports whether the run goes on behind the statement.
func (r *modelRun) execute(n *modelNode) bool {
	switch n.letter {
	case ";":
		return r.execute(n.parts[0]) && r.execute(n.parts[1])
	case "/":
		if r.picks == "" {
			r.code = impl.RunAsks
			return false
		}
		part := n.parts[strings.Index("01", r.picks[:1])]
		r.picks = r.picks[1:]
		return r.execute(part)
	case "~":
		if !n.isTrue(r.s) {
			r.code = impl.RunBlocked
			return false
		}
	}
	if !r.step() {
		return false
	}
	switch {
	case n.letter == "a":
		r.s = n.assign(r.s)
		r.cost++
	case n.letter == "?" && n.isTrue(r.s):
		return r.execute(n.parts[0])
	case n.letter == "?":
		return r.execute(n.parts[1])
	case n.letter == "@" && n.isTrue(r.s):
		return r.execute(n.parts[0]) && r.execute(n)
	}
	return true
}

// A modelTable tells, by the numbers of states, what may be come to from each.
type modelTable struct {
	finals [27][27]bool
	loops  [27]bool
	blocks [27]bool
}

func numberOf(s impl.State) int { return s.X + 3*s.Y + 9*s.Z }

// tableOf composes the table of a statement from those of its parts.
func tableOf(n *modelNode) modelTable {
	var parts []modelTable
	for _, part := range n.parts {
		parts = append(parts, tableOf(part))
	}
	if n.letter == "@" {
		return loopTable(n, parts[0])
	}
	var m modelTable
	for i, s := range allStates() {
		switch n.letter {
		case "s":
			m.finals[i][i] = true
		case "a":
			m.finals[i][numberOf(n.assign(s))] = true
		case "~":
			m.finals[i][i] = n.isTrue(s)
			m.blocks[i] = !n.isTrue(s)
		case "?":
			if n.isTrue(s) {
				m.add(i, parts[0], i)
			} else {
				m.add(i, parts[1], i)
			}
		case "/":
			m.add(i, parts[0], i)
			m.add(i, parts[1], i)
		case ";":
			m.loops[i], m.blocks[i] = parts[0].loops[i], parts[0].blocks[i]
			for j, ends := range parts[0].finals[i] {
				if ends {
					m.add(i, parts[1], j)
				}
			}
		}
	}
	return m
}

// add lets the state i come to all that another table tells of the state j.
func (m *modelTable) add(i int, other modelTable, j int) {
	for k, ends := range other.finals[j] {
		m.finals[i][k] = m.finals[i][k] || ends
	}
	m.loops[i] = m.loops[i] || other.loops[j]
	m.blocks[i] = m.blocks[i] || other.blocks[j]
}

// turnsOf returns which states one or more turns of a loop lead to.
func turnsOf(n *modelNode, body modelTable) [27][27]bool {
	var turns [27][27]bool
	for i, s := range allStates() {
		if n.isTrue(s) {
			turns[i] = body.finals[i]
		}
	}
	for k := range turns {
		for i := range turns {
			for j := range turns {
				turns[i][j] = turns[i][j] || turns[i][k] && turns[k][j]
			}
		}
	}
	return turns
}

func loopTable(n *modelNode, body modelTable) modelTable {
	var m modelTable
	turns := turnsOf(n, body)
	for i := range turns {
		for j, s := range allStates() {
			if i != j && !turns[i][j] {
				continue
			}
			if n.isTrue(s) {
				m.loops[i] = m.loops[i] || body.loops[j] || turns[j][j]
				m.blocks[i] = m.blocks[i] || body.blocks[j]
			} else {
				m.finals[i][j] = true
			}
		}
	}
	return m
}

// modelHeads returns the states at which the test of a loop is looked at.
func modelHeads(test, body string, s impl.State) string {
	n := &modelNode{letter: "@", head: test}
	turns := turnsOf(n, tableOf(modelTree(body)))
	return modelSet(func(t impl.State) bool { return s == t || turns[numberOf(s)][numberOf(t)] })
}

// allPicks returns all picks up to a length, the shorter ones first, and those
// of the same length in the order of the alphabet.
func allPicks(most int) []string {
	list := []string{""}
	for i := 0; len(list[i]) < most; i++ {
		list = append(list, list[i]+"0", list[i]+"1")
	}
	return list
}

// modelPicks tries all picks and returns the first ones to each final state.
func modelPicks(n *modelNode, s impl.State) map[impl.State]string {
	found := map[impl.State]string{}
	for _, picks := range allPicks(6) {
		r := replayModel(n, s, picks, 300)
		if _, known := found[r.s]; r.code == impl.RunDone && r.picks == "" && !known {
			found[r.s] = picks
		}
	}
	return found
}

// movingProgram returns a program that often loops, chooses, and is blocked.
func movingProgram(seed *uint32, depth int) string {
	*seed = *seed*1664525 + 1013904223
	n := *seed >> 8
	flat := []string{"s", "ax+x1", "ay+y1", "az+z2", "ax0", "ayx", "az*zy", "~<x2", "~!=yz", "ax-2y", "ay2", "~t"}
	tests := []string{"<x2", "!=y0", "<zy", "|<x1<y2", "=xy", "!=z2", "&<x2!=y2", "t", "f", "!=x*yz"}
	test := tests[n>>4%uint32(len(tests))]
	switch kind := n % 8; {
	case depth == 0:
		return flat[n>>4%uint32(len(flat))]
	case kind < 2:
		return "@" + test + movingProgram(seed, depth-1)
	case kind < 4:
		return "/" + movingProgram(seed, depth-1) + movingProgram(seed, depth-1)
	case kind == 4:
		return "?" + test + movingProgram(seed, depth-1) + movingProgram(seed, depth-1)
	}
	return ";" + movingProgram(seed, depth-1) + movingProgram(seed, depth-1)
}

// movingPrograms returns such programs, from small ones on.
func movingPrograms() []string {
	seed := uint32(411)
	var list []string
	for depth := 1; depth <= 5; depth++ {
		for range 120 {
			if p := movingProgram(&seed, depth); len(p) <= 200 {
				list = append(list, p)
			}
		}
	}
	return list
}

// programsToRun returns programs of every form.
func programsToRun() []string {
	list := append(movingPrograms(), smallPrograms()...)
	list = append(list, fullPrograms()...)
	seed := uint32(44)
	for length := range 200 {
		list = append(list, anyProgram(&seed, length+1))
	}
	return list
}
