package tests

import (
	"strings"

	"loop.example/productprograms/impl"
)

// A model of triples and loops that looks at the table of what may be come to
// from each state (runs_helper_test.go), and computes no condition.

// modelFree returns the states with no final state outside of a set.
func modelFree(m modelTable, post string) string {
	return modelSet(func(s impl.State) bool {
		for j, ends := range m.finals[numberOf(s)] {
			if ends && post[j] == '0' {
				return false
			}
		}
		return true
	})
}

// modelTotal leaves out the states with a run that does not end.
func modelTotal(m modelTable, post string) string {
	free := modelFree(m, post)
	return modelSet(func(s impl.State) bool {
		i := numberOf(s)
		return free[i] == '1' && !m.loops[i] && !m.blocks[i]
	})
}

// modelCounter tries all pairs of states in the order of their numbers.
func modelCounter(m modelTable, pre, post string) (impl.State, impl.State, bool) {
	for i, s := range allStates() {
		for j, to := range allStates() {
			if pre[i] == '1' && post[j] == '0' && m.finals[i][j] {
				return s, to, true
			}
		}
	}
	return impl.State{}, impl.State{}, false
}

// A modelLoop is a loop, with what its body and its turns may come to.
type modelLoop struct {
	node  *modelNode
	body  modelTable
	turns [27][27]bool
}

func modelLoopOf(test, body string) modelLoop {
	n := &modelNode{letter: "@", head: test}
	l := modelLoop{node: n, body: tableOf(modelTree(body))}
	l.turns = turnsOf(n, l.body)
	return l
}

// keeps tries all pairs of states of a set and outside of it.
func (l modelLoop) keeps(inv string) bool {
	for i, s := range allStates() {
		for j := range inv {
			if inv[i] == '1' && inv[j] == '0' && l.node.isTrue(s) && l.body.finals[i][j] {
				return false
			}
		}
	}
	return true
}

// leaves returns the states of a set in which the test is false.
func (l modelLoop) leaves(inv string) string {
	return modelSet(func(s impl.State) bool { return inModel(inv, s) && !l.node.isTrue(s) })
}

func (l modelLoop) proves(pre, inv, post string) bool {
	return l.keeps(inv) && modelWithin(pre, inv) && modelWithin(l.leaves(inv), post)
}

// from returns the states that no turn, or one or more, lead to.
func (l modelLoop) from(pre string) string {
	return modelSet(func(to impl.State) bool {
		for i := range pre {
			if pre[i] == '1' && (i == numberOf(to) || l.turns[i][numberOf(to)]) {
				return true
			}
		}
		return false
	})
}

// weakest returns the states from which turns lead out of the loop only into a
// set: those of which the least set that is kept proves this.
func (l modelLoop) weakest(post string) string {
	return modelSet(func(s impl.State) bool {
		return modelWithin(l.leaves(l.from(single(numberOf(s)))), post)
	})
}

// turnsLeft takes all runs from a state through turn after turn at once.
func (l modelLoop) turnsLeft(s impl.State) int {
	at := single(numberOf(s))
	for turns := 0; turns <= 27; turns++ {
		next := map[int]bool{}
		again := false
		for i, s := range allStates() {
			if at[i] == '0' || !l.node.isTrue(s) {
				continue
			}
			again = true
			if l.body.loops[i] {
				return -1
			}
			for j, ends := range l.body.finals[i] {
				next[j] = next[j] || ends
			}
		}
		if !again {
			return turns
		}
		at = modelSet(func(s impl.State) bool { return next[numberOf(s)] })
	}
	// More turns than there are states come to some state again.
	return -1
}

// A testedLoop is the test and the body of a loop.
type testedLoop struct{ test, body string }

// loopsToRun returns loops with bodies of every form.
func loopsToRun() []testedLoop {
	tests := append(someTests()[:30], "<x2", "!=z0", "|<x2<y2", "!=xy", "t", "f", "<x2", "!=y1")
	var list []testedLoop
	for n, body := range append(programsToRun(), someLoops()...) {
		list = append(list, testedLoop{tests[n%len(tests)], body})
	}
	for _, test := range []string{"t", "f", "<x2", "!=xy", "=y0"} {
		for _, body := range []string{"s", "~f", "@ts", "ax+x1", "/ax+x1~f", "/ax+x1@ts", ";ax+x1ay+y1", ";ax+x1~<x2", countingBody} {
			list = append(list, testedLoop{test, body})
		}
	}
	return list
}

// countingBody leads from each state to that with the next number, and is
// blocked in the last one.
const countingBody = "?<x2ax+x1;ax0?<y2ay+y1;ay0?<z2az+z1~f"

// brokenTests returns texts that are no tests.
func brokenTests() []string {
	list := append(someExprs(), brokenEverywhere()...)
	return append(list, "ts", "<x2s", "s", "~t", "@ts", "<x2 ", strings.Repeat("!", 200)+"t", strings.Repeat("!", 198)+"=xy")
}

// textsThatAreNoPrograms returns broken programs, and those that are too long.
func textsThatAreNoPrograms() []string {
	return append(brokenPrograms(), "ax"+longSum(199), strings.Repeat("@t", 100)+"s", strings.Repeat("/s", 100)+"s", "t", "=xy", noStates)
}

// turned returns some of the sets, from one of them on.
func turned(sets []string, from, some int) []string {
	var list []string
	for i := range some {
		list = append(list, sets[(from+i)%len(sets)])
	}
	return list
}
