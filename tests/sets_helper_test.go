package tests

import (
	"strings"

	"loop.example/productprograms/impl"
)

// A model of sets of states: texts that are built and read byte by byte.

// The empty set and the set of all states.
const (
	noStates   = "000000000000000000000000000"
	everyState = "111111111111111111111111111"
)

// modelSet returns the text of the states that a function picks out.
func modelSet(has func(s impl.State) bool) string {
	text := ""
	for _, s := range allStates() {
		if has(s) {
			text += "1"
		} else {
			text += "0"
		}
	}
	return text
}

// inModel reports whether a state is in a set, by the place of its byte.
func inModel(p string, s impl.State) bool {
	return p[s.X+3*s.Y+9*s.Z] == '1'
}

// modelWith returns a state with another value of a variable.
func modelWith(s impl.State, v string, n int) impl.State {
	*map[string]*int{"x": &s.X, "y": &s.Y, "z": &s.Z}[v] = n
	return s
}

// modelPredOf returns the set of the states in which a test of the model is true.
func modelPredOf(text string) string {
	return modelSet(func(s impl.State) bool {
		is, _, _ := modelTest(text, s)
		return is
	})
}

// modelPre and modelPost take each state through the assignment.
func modelPre(p, v, e string) string {
	return modelSet(func(s impl.State) bool {
		n, _, _ := modelExpr(e, s)
		return inModel(p, modelWith(s, v, n))
	})
}

func modelPost(p, v, e string) string {
	reached := map[impl.State]bool{}
	for _, s := range allStates() {
		if n, _, _ := modelExpr(e, s); inModel(p, s) {
			reached[modelWith(s, v, n)] = true
		}
	}
	return modelSet(func(s impl.State) bool { return reached[s] })
}

// modelWithin compares two texts byte by byte.
func modelWithin(p, q string) bool {
	for i := range p {
		if p[i] == '1' && q[i] == '0' {
			return false
		}
	}
	return true
}

// single returns the set of one state.
func single(i int) string {
	return noStates[:i] + "1" + noStates[i+1:]
}

// someSets returns the empty set, that of all states, all sets of one state
// and of all states but one, sets of tests, and sets without any pattern.
func someSets() []string {
	list := []string{noStates, everyState}
	for i := range everyState {
		list = append(list, single(i), everyState[:i]+"0"+everyState[i+1:])
	}
	for _, t := range []string{"=x0", "=y1", "=z2", "<xy", "=xy", "=yz", "!=xz", "&=x1=z2", "|=y0<zx", "=+xyz", "=*xy1"} {
		list = append(list, modelPredOf(t))
	}
	n := uint32(12345)
	for range 24 {
		n = n*1664525 + 1013904223
		bits := n
		list = append(list, modelSet(func(impl.State) bool {
			bits = bits>>1 | bits<<31
			return bits&1 == 1
		}))
	}
	return list
}

// fewSets returns some of someSets, for checks that take many arguments.
func fewSets() []string {
	list := someSets()
	few := append([]string{}, list[:4]...)
	return append(few, list[len(list)-32:]...)
}

// brokenSets returns texts that are no sets.
func brokenSets() []string {
	list := []string{
		"", "0", "1", "t", "=xy", "x", noStates[1:], everyState[1:], noStates + "0", everyState + "1",
		noStates + everyState, everyState + "\x00", everyState + "\n", " " + everyState, " " + everyState[1:],
		// 27 bytes, and 27 characters.
		strings.Repeat("é", 13) + "1", strings.Repeat("é", 27), strings.Repeat("\x00", 27), strings.Repeat("\x01", 27),
		strings.Repeat("1", 54), strings.Repeat("0", 729), strings.Repeat("1", 1<<20),
	}
	for _, bad := range []string{"2", "/", " ", "-", "t", "f", "x", "O", "l", "\x00", "\x01", "\n", "\x80", "\xff", "p", "q"} {
		for _, i := range []int{0, 1, 13, 25, 26} {
			list = append(list, everyState[:i]+bad+everyState[i+1:], noStates[:i]+bad+noStates[i+1:])
		}
	}
	return list
}

func letters() []string { return []string{"x", "y", "z"} }

// modelPredVars looks for the two states that the chapter tells of.
func modelPredVars(p string) string {
	vars := ""
	for _, v := range letters() {
		differ := false
		for _, s := range allStates() {
			for n := range 3 {
				differ = differ || inModel(p, s) != inModel(p, modelWith(s, v, n))
			}
		}
		if differ {
			vars += v
		}
	}
	return vars
}

// modelCount counts the values of a variable with which a state is in a set.
func modelCount(p string, s impl.State, v string) int {
	count := 0
	for n := range 3 {
		if inModel(p, modelWith(s, v, n)) {
			count++
		}
	}
	return count
}
