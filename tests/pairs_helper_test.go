package tests

import (
	"strings"
	"testing"

	"loop.example/productprograms/impl"
)

// A model of triples of two programs that looks at the tables of what each program
// may come to by itself (runs_helper_test.go), and tries all pairs.

// A modelDuo is two programs, side by side.
type modelDuo struct {
	left, right modelTable
}

func duoOf(p, q string) modelDuo {
	return modelDuo{tableOf(modelTree(p)), tableOf(modelTree(q))}
}

// anyEnd tries all pairs of final states, in the order of bytes, and reports
// whether one of them is as asked for.
func (d modelDuo) anyEnd(i, j int, asked func(k, l int) bool) bool {
	for k, ends := range d.left.finals[i] {
		for l := range 27 {
			if ends && d.right.finals[j][l] && asked(k, l) {
				return true
			}
		}
	}
	return false
}

// free returns the pairs with no pair of final states outside of a relation.
func (d modelDuo) free(post string) string {
	return modelRel(func(i, j int) bool {
		return !d.anyEnd(i, j, func(k, l int) bool { return !inRel(post, k, l) })
	})
}

// post returns the pairs of final states from a relation.
func (d modelDuo) post(pre string) string {
	text := []byte(noPairs)
	for i := range 27 {
		for j := range 27 {
			d.anyEnd(i, j, func(k, l int) bool {
				if inRel(pre, i, j) {
					text[27*k+l] = '1'
				}
				return false
			})
		}
	}
	return string(text)
}

// A modelCounterPair is what CounterPair returns.
type modelCounterPair struct {
	s, t, s2, t2 impl.State
	ok           bool
}

// counter takes the first pair of a relation from which some pair of final states
// is outside of another one, and the first one of these.
func (d modelDuo) counter(pre, post string) modelCounterPair {
	var c modelCounterPair
	states := allStates()
	for i := range 27 {
		for j := range 27 {
			found := inRel(pre, i, j) && d.anyEnd(i, j, func(k, l int) bool {
				c = modelCounterPair{states[i], states[j], states[k], states[l], true}
				return !inRel(post, k, l)
			})
			if found {
				return c
			}
		}
	}
	return modelCounterPair{}
}

// matched returns the pairs from which there is, for each final state of the
// first program, one of the second program.
func (d modelDuo) matched(post string) string {
	return modelRel(func(i, j int) bool {
		for k, ends := range d.left.finals[i] {
			match := false
			for l := range 27 {
				match = match || d.right.finals[j][l] && inRel(post, k, l)
			}
			if ends && !match {
				return false
			}
		}
		return true
	})
}

// together returns the pairs from which both programs surely end, or neither.
func (d modelDuo) together() string {
	surely := func(m modelTable, i int) bool { return !m.loops[i] && !m.blocks[i] }
	return modelRel(func(i, j int) bool { return surely(d.left, i) == surely(d.right, j) })
}

func wantTruth(t *testing.T, call string, got, want bool) {
	t.Helper()
	if got != want {
		t.Errorf("%s = %v", call, got)
	}
}

func wantCounterPair(t *testing.T, pre, p, q, post string, want modelCounterPair) {
	t.Helper()
	var got modelCounterPair
	got.s, got.t, got.s2, got.t2, got.ok = impl.CounterPair(pre, p, q, post)
	if got != want {
		t.Errorf("CounterPair(%.729q, %.200q, %.200q, %.729q) = %v, want %v", pre, p, q, post, got, want)
	}
}

// checkDuo compares every function of one pair of programs with the model.
func checkDuo(t *testing.T, p, q, pre, post string) {
	t.Helper()
	d := duoOf(p, q)
	both := " of " + p + " and " + q + ", " + pre + ", " + post
	free, matched, together := d.free(post), d.matched(post), d.together()
	got, ok := impl.PairFree(p, q, post)
	wantText(t, "PairFree"+both, got, ok, free, true)
	got, ok = impl.PairPost(pre, p, q)
	wantText(t, "PairPost"+both, got, ok, d.post(pre), true)
	got, ok = impl.MatchFree(p, q, post)
	wantText(t, "MatchFree"+both, got, ok, matched, true)
	wantTruth(t, "PairHolds"+both, impl.PairHolds(pre, p, q, post), modelWithin(pre, free))
	wantTruth(t, "MatchHolds"+both, impl.MatchHolds(pre, p, q, post), modelWithin(pre, matched))
	wantTruth(t, "EndTogether"+both, impl.EndTogether(pre, p, q), modelWithin(pre, together))
	wantCounterPair(t, pre, p, q, post, d.counter(pre, post))
	// The greatest relations, and those with one pair more.
	wantTruth(t, "PairHolds of PairFree"+both, impl.PairHolds(free, p, q, post), true)
	wantTruth(t, "EndTogether of all such pairs"+both, impl.EndTogether(together, p, q), true)
	if more := withOneMore(free, len(both)); more != free {
		wantTruth(t, "PairHolds of more than PairFree"+both, impl.PairHolds(more, p, q, post), false)
		wantCounterPair(t, more, p, q, post, d.counter(more, post))
	}
	if more := withOneMore(together, len(both)); more != together {
		wantTruth(t, "EndTogether of more"+both, impl.EndTogether(more, p, q), false)
	}
}

// pairsText returns the relation of some pairs of states, each written as two
// texts.
func pairsText(pairs ...[2]string) string {
	text := []byte(noPairs)
	for _, at := range pairs {
		text[modelPair{stateOf(at[0]), stateOf(at[1])}.index()] = '1'
	}
	return string(text)
}

// withOneMore returns a relation with one pair more, if there is one, searched
// from a byte that depends on a number.
func withOneMore(r string, from int) string {
	for k := range r {
		if at := (k + from*41) % len(r); r[at] == '0' {
			return otherwise(r, at)
		}
	}
	return r
}

// endlessPrograms returns programs without final states, from any state: that
// never end, are blocked, or may be either.
func endlessPrograms() []string {
	return []string{
		"~f", "@ts", ";~fax1", ";ax1~f", ";ax1@ts", "/~f@ts", "/@ts~f", "@tax+x1", "@t/sax0", "@t~f", "@t@fs", "?=x0~f@ts", ";@<x2ax+x1~<x2", "@=xx~=+x1x", "~<xx",
		";~=x0~=x1", "@t?=y0ay1;ay0/s~f", "~" + strings.Repeat("!", 198) + "f", strings.Repeat("@t", 99) + "~t", strings.Repeat(";s", 99) + "~f",
	}
}

// choosingPrograms returns programs of one or more final states from each state,
// and of none from some.
func choosingPrograms() []string {
	return []string{
		"s", "/ax0ax1", "/ax1ax0", "/ax1/ax0ax2", "/ax1ax2", "/sax+x1", "/s/ax+x1ax+x2", "/ax0~f", "/ax0~=y0", "/ax1@<y1s", "/s@ts", ";/ax0ax1/ay0ay1", ";/ax0ax2/~=y0ay2", "?=y0/ax0ax1ax2",
		"?=y0ax1/ax0/ax1ax2", "@=x0/ax1ax2", "@!=x2/ax1ax2", "@<x2/sax+x1", ";/ax0/ax1ax2~=xy", "~=x0", "/~=x0~=x1", "@t/~fs", "~f",
	}
}

// somePairsOfPrograms returns pairs of programs of every form.
func somePairsOfPrograms(step int) [][2]string {
	var list [][2]string
	kinds := programsOfEveryKind()
	for n, p := range kinds {
		for k, q := range kinds {
			if (n+k)%step == 0 {
				list = append(list, [2]string{p, q})
			}
		}
	}
	programs := append(movingPrograms(), someLoops()...)
	for n := range 180 {
		list = append(list, [2]string{programs[n*13*step%len(programs)], programs[(n*29*step+7)%len(programs)]})
	}
	return list
}
