package tests

import (
	"strings"
	"testing"

	"loop.example/productprograms/impl"
)

// A model of changes that looks at the tables of what programs may come to
// (runs_helper_test.go), and tries all states, final states and values.

func tableOfText(p string) modelTable { return tableOf(modelTree(p)) }

// tableInSequence needs no text of both programs, which may be too long for one.
func tableInSequence(p, q string) modelTable {
	return tableOf(&modelNode{letter: ";", parts: []*modelNode{modelTree(p), modelTree(q)}})
}

// A modelChange is two programs, and their tables.
type modelChange struct {
	p, q string
	modelDuo
}

func changeOf(p, q string) modelChange { return modelChange{p, q, duoOf(p, q)} }

// difference is what FirstDifference returns.
func (c modelChange) difference() (impl.State, string) {
	for i, s := range allStates() {
		switch {
		case c.left.finals[i] != c.right.finals[i]:
			return s, "finals"
		case c.left.loops[i] != c.right.loops[i]:
			return s, "loops"
		case c.left.blocks[i] != c.right.blocks[i]:
			return s, "blocks"
		}
	}
	return impl.State{}, "none"
}

// refines reports whether the second table tells of all that the first one tells.
func (c modelChange) refines() bool {
	for i := range c.left.finals {
		for j, ends := range c.left.finals[i] {
			if ends && !c.right.finals[i][j] {
				return false
			}
		}
		if c.left.loops[i] && !c.right.loops[i] || c.left.blocks[i] && !c.right.blocks[i] {
			return false
		}
	}
	return true
}

// agreements are the relations of AgreeOn, by their letters.
var agreements = func() map[string]string {
	rels := map[string]string{}
	for _, vars := range lettersToAgreeOn() {
		rels[vars] = modelAgree(vars)
	}
	return rels
}()

// sameOn tries all pairs of states, and all final states of both.
func (c modelChange) sameOn(in, out string) bool {
	before, after := agreements[in], agreements[out]
	for at := range before {
		i, j := at/27, at%27
		if before[at] == '1' && c.anyEnd(i, j, func(k, l int) bool { return !inRel(after, k, l) }) {
			return false
		}
	}
	return true
}

func (c modelChange) affected() string {
	vars := ""
	for _, v := range letters() {
		if !c.sameOn("xyz", v) {
			vars += v
		}
	}
	return vars
}

// valueIn returns the value of a variable in a state.
func valueIn(s impl.State, v string) int {
	switch v {
	case "x":
		return s.X
	case "y":
		return s.Y
	}
	return s.Z
}

// valuesBehind returns, for each state, which values a variable has in the final
// states.
func valuesBehind(m modelTable, out string) [27][3]bool {
	var found [27][3]bool
	for i := range found {
		for j, to := range allStates() {
			if m.finals[i][j] {
				found[i][valueIn(to, out)] = true
			}
		}
	}
	return found
}

// modelDepends tries all states, and all values in place of one of theirs.
func modelDepends(m modelTable, out string) string {
	values := valuesBehind(m, out)
	vars := ""
	for _, v := range letters() {
		differ := false
		for i, s := range allStates() {
			for n := range 3 {
				differ = differ || values[i] != values[numberOf(modelWith(s, v, n))]
			}
		}
		if differ {
			vars += v
		}
	}
	return vars
}

// modelMonotone looks for a state, another one with a value that is not less, and
// final values of both the second one of which is less.
func modelMonotone(m modelTable, v, w string) bool {
	values := valuesBehind(m, w)
	for i, s := range allStates() {
		for n := valueIn(s, v); n < 3; n++ {
			j := numberOf(modelWith(s, v, n))
			for first, isFirst := range values[i] {
				for second, isSecond := range values[j] {
					if isFirst && isSecond && first > second {
						return false
					}
				}
			}
		}
	}
	return true
}

func modelDeterministic(m modelTable) bool {
	for _, finals := range m.finals {
		count := 0
		for _, ends := range finals {
			if ends {
				count++
			}
		}
		if count > 1 {
			return false
		}
	}
	return true
}

func modelSymmetric(p, v, w string) bool {
	return tableOfText(modelSwap(p, v, w)) == tableOfText(p)
}

func wantDifference(t *testing.T, p, q string, want impl.State, wantKind string) {
	t.Helper()
	if s, kind := impl.FirstDifference(p, q); s != want || kind != wantKind {
		t.Errorf("FirstDifference(%.200q, %.200q) = %v, %q, want %v, %q", p, q, s, kind, want, wantKind)
	}
}

func wantLetters(t *testing.T, call, got, want string) {
	t.Helper()
	if got != want {
		t.Errorf("%s = %q, want %q", call, got, want)
	}
}

// checkChange compares every function of two programs with the model, with some
// letters for SameOn.
func checkChange(t *testing.T, p, q string, from int) {
	t.Helper()
	c := changeOf(p, q)
	both := " of " + p + " and " + q
	s, kind := c.difference()
	wantDifference(t, p, q, s, kind)
	wantTruth(t, "SamePrograms"+both, impl.SamePrograms(p, q), c.left == c.right)
	wantTruth(t, "RefinesProgram"+both, impl.RefinesProgram(p, q), c.refines())
	wantLetters(t, "AffectedVars"+both, impl.AffectedVars(p, q), c.affected())
	for n := range 4 {
		in, out := lettersToAgreeOn()[(from+3*n)%8], lettersToAgreeOn()[(from/8+n)%8]
		wantTruth(t, "SameOn"+both+", "+in+", "+out, impl.SameOn(p, q, in, out), c.sameOn(in, out))
	}
	forth, back := tableInSequence(p, q), tableInSequence(q, p)
	wantTruth(t, "CommutePrograms"+both, impl.CommutePrograms(p, q), forth == back)
	wantTruth(t, "UndoesProgram"+both, impl.UndoesProgram(p, q), forth == tableOfText("s"))
}

// checkProgramAlone compares every function of one program with the model.
func checkProgramAlone(t *testing.T, p string) {
	t.Helper()
	m := tableOfText(p)
	wantTruth(t, "IdempotentProgram of "+p, impl.IdempotentProgram(p), tableInSequence(p, p) == m)
	wantTruth(t, "DeterministicProgram of "+p, impl.DeterministicProgram(p), modelDeterministic(m))
	for _, v := range letters() {
		wantLetters(t, "DependsOn of "+p+", "+v, impl.DependsOn(p, v), modelDepends(m, v))
		for _, w := range letters() {
			wantTruth(t, "MonotoneIn of "+p+", "+v+", "+w, impl.MonotoneIn(p, v, w), modelMonotone(m, v, w))
			wantTruth(t, "SymmetricIn of "+p+", "+v+", "+w, impl.SymmetricIn(p, v, w), modelSymmetric(p, v, w))
		}
	}
}

// A modelPlace is a test, and the first state in which it is true.
type modelPlace struct{ test, first string }

// placesOfChanges returns tests that are true in the first state, in the last one,
// and in several.
func placesOfChanges() []modelPlace {
	return []modelPlace{{"&=x0&=y0=z0", "000"}, {"&=x2&=y2=z2", "222"}, {"=y1", "010"}, {"&=x1=z2", "102"}, {"!<z2", "002"}, {"t", "000"}, {"|=y2<+xz1", "000"}, {"&=x2<zy", "210"}}
}

// changedAt returns a program that does another thing in some states only.
func changedAt(test, p, q string) string { return "?" + test + q + p }

// sameAs returns programs that do what a program does.
func sameAs(p string) []string {
	return []string{p, ";s" + p, ";" + p + "s", "/" + p + p, "?=xy" + p + p, "?t" + p + "~f", "?f@ts" + p, ";~t" + p, "/" + p + ";s" + p, ";@fax0" + p, "?<yz;s" + p + ";" + p + "~t"}
}

// nearTo returns programs that may end elsewhere, not at all, or be blocked, too.
func nearTo(p string) []string {
	var list []string
	for _, at := range placesOfChanges() {
		for _, more := range []string{"~f", "@ts", ";" + p + "ax+x1", ";az-z1" + p} {
			list = append(list, changedAt(at.test, p, "/"+p+more), changedAt(at.test, p, more))
		}
	}
	return list
}

// padded returns a program of just 200 bytes that does what a short one does.
func padded(p string) string {
	if len(p)%2 == 1 {
		p = ";~t" + p
	}
	return strings.Repeat(";s", (200-len(p))/2) + p
}

// someOfEveryForm returns programs of every form, from small ones on, and of those
// that are many only some.
func someOfEveryForm(step int) []string {
	list := append(programsOfEveryKind(), choosingPrograms()...)
	list = append(list, endlessPrograms()...)
	for n, p := range append(append(smallPrograms(), movingPrograms()...), someLoops()...) {
		if n%step == 0 {
			list = append(list, p)
		}
	}
	return list
}
