package tests

import (
	"math"
	"strconv"
	"strings"
	"testing"

	"loop.example/productprograms/impl"
)

func TestConstantsOfStage2(t *testing.T) {
	if impl.States != 27 {
		t.Errorf("States = %d", impl.States)
	}
}

func TestNumbersOfStates(t *testing.T) {
	for i, s := range allStates() {
		if got := impl.StateIndex(s); got != i {
			t.Errorf("StateIndex(%v) = %d, want %d", s, got, i)
		}
		if got, ok := impl.StateAt(i); got != s || !ok {
			t.Errorf("StateAt(%d) = %v, %v, want %v", i, got, ok, s)
		}
	}
	for s, want := range map[impl.State]int{{X: 1}: 1, {Y: 1}: 3, {Z: 1}: 9, {X: 1, Y: 2}: 7, {X: 2, Y: 2, Z: 2}: 26} {
		if got := impl.StateIndex(s); got != want {
			t.Errorf("StateIndex(%v) = %d, want %d", s, got, want)
		}
	}
	for _, s := range brokenStates() {
		if got := impl.StateIndex(s); got != -1 {
			t.Errorf("StateIndex(%v) = %d", s, got)
		}
	}
	for _, i := range []int{-1, -2, -3, -9, -26, -27, 27, 28, 31, 32, 54, 81, 256, 1 << 32, math.MaxInt, math.MinInt} {
		if got, ok := impl.StateAt(i); got != (impl.State{}) || ok {
			t.Errorf("StateAt(%d) = %v, %v", i, got, ok)
		}
	}
}

func TestTextsOfStates(t *testing.T) {
	for _, s := range allStates() {
		text := "012"[s.X:s.X+1] + "012"[s.Y:s.Y+1] + "012"[s.Z:s.Z+1]
		if got := impl.FormatState(s); got != text {
			t.Errorf("FormatState(%v) = %q", s, got)
		}
		if got, ok := impl.ParseState(text); got != s || !ok {
			t.Errorf("ParseState(%q) = %v, %v", text, got, ok)
		}
	}
	for _, s := range brokenStates() {
		if got := impl.FormatState(s); got != "" {
			t.Errorf("FormatState(%v) = %q", s, got)
		}
	}
}

func TestTextsOfNoState(t *testing.T) {
	texts := []string{
		"", "0", "12", "1200", "0000", "000 ", " 000", "000\n", "0 0", "1,2", "1 2 0", "+12", "-12", "1-2", "xyz", "x20",
		"300", "030", "003", "999", "é0", "0é", "é", "٠١٢", "\x00\x00\x00", "\x01\x02\x00", "\xff\xff\xff", noStates,
	}
	for b := 0; b < 256; b++ {
		if letter := string([]byte{byte(b)}); !strings.Contains("012", letter) {
			texts = append(texts, letter+"12", "0"+letter+"2", "21"+letter)
		}
	}
	for _, text := range texts {
		if got, ok := impl.ParseState(text); got != (impl.State{}) || ok {
			t.Errorf("ParseState(%q) = %v, %v", text, got, ok)
		}
	}
}

func TestPredValid(t *testing.T) {
	for _, p := range someSets() {
		if !impl.PredValid(p) {
			t.Errorf("PredValid(%q) = false", p)
		}
		for _, text := range []string{p[1:], p[:26], p + "0", "1" + p} {
			if impl.PredValid(text) {
				t.Errorf("PredValid of %d bytes = true", len(text))
			}
		}
	}
	for _, p := range brokenSets() {
		if impl.PredValid(p) {
			t.Errorf("PredValid(%.40q) = true", p)
		}
	}
	for i := range noStates {
		for b := 0; b < 256; b++ {
			p := noStates[:i] + string([]byte{byte(b)}) + noStates[i+1:]
			if got := impl.PredValid(p); got != (b == '0' || b == '1') {
				t.Errorf("PredValid(%q) = %v", p, got)
			}
		}
	}
}

func TestPredOf(t *testing.T) {
	sets := map[string]string{
		"t": everyState, "f": noStates, "=xx": everyState, "<xx": noStates, "=12": noStates,
		"=x0": strings.Repeat("100", 9), "=y1": strings.Repeat("000111000", 3), "=z2": noStates[:18] + everyState[:9],
		"=xy": strings.Repeat("100010001", 3), "!=xy": strings.Repeat("011101110", 3), "<xy": strings.Repeat("000100110", 3),
		"&=x2&=y1=z0": single(5), strings.Repeat("!", 199) + "t": noStates,
	}
	for test, want := range sets {
		got, ok := impl.PredOf(test)
		wantText(t, "PredOf of "+test, got, ok, want, true)
	}
	p, _ := impl.PredOf("=xy")
	for i := range p {
		in := strings.Contains(" 0 4 8 9 13 17 18 22 26 ", " "+strconv.Itoa(i)+" ")
		if (p[i] == '1') != in {
			t.Errorf("the example of the chapter has the byte %q for the state %d", p[i], i)
		}
	}
	for _, test := range someTests() {
		got, ok := impl.PredOf(test)
		wantText(t, "PredOf of "+test, got, ok, modelPredOf(test), true)
	}
	for _, text := range append(brokenEverywhere(), "x", "0", "+xy", noStates, everyState, strings.Repeat("!", 200)+"t") {
		got, ok := impl.PredOf(text)
		wantText(t, "PredOf of what is no test", got, ok, "", false)
	}
}

func TestHasState(t *testing.T) {
	for _, p := range someSets() {
		for _, s := range allStates() {
			if got := impl.HasState(p, s); got != inModel(p, s) {
				t.Errorf("HasState(%q, %v) = %v", p, s, got)
			}
		}
		for _, s := range brokenStates() {
			if impl.HasState(p, s) {
				t.Errorf("HasState(%q, %v) = true", p, s)
			}
		}
	}
	for _, p := range brokenSets() {
		for _, s := range append(allStates(), impl.State{X: -1}, impl.State{Z: 3}) {
			if impl.HasState(p, s) {
				t.Errorf("HasState(%.40q, %v) = true", p, s)
			}
		}
	}
}

func TestAndOrNot(t *testing.T) {
	for _, p := range someSets() {
		got, ok := impl.NotPred(p)
		wantText(t, "NotPred of "+p, got, ok, modelSet(func(s impl.State) bool { return !inModel(p, s) }), true)
		for _, q := range someSets() {
			got, ok = impl.AndPred(p, q)
			wantText(t, "AndPred of "+p+", "+q, got, ok, modelSet(func(s impl.State) bool { return inModel(p, s) && inModel(q, s) }), true)
			got, ok = impl.OrPred(p, q)
			wantText(t, "OrPred of "+p+", "+q, got, ok, modelSet(func(s impl.State) bool { return inModel(p, s) || inModel(q, s) }), true)
		}
	}
}

func TestAndOrNotOfInvalidSets(t *testing.T) {
	for _, p := range brokenSets() {
		got, ok := impl.NotPred(p)
		wantText(t, "NotPred of what is no set", got, ok, "", false)
		for _, q := range []string{noStates, everyState, single(13), p, ""} {
			for _, pair := range [][2]string{{p, q}, {q, p}} {
				got, ok = impl.AndPred(pair[0], pair[1])
				wantText(t, "AndPred of what is no set", got, ok, "", false)
				got, ok = impl.OrPred(pair[0], pair[1])
				wantText(t, "OrPred of what is no set", got, ok, "", false)
			}
		}
	}
}

func TestPredWithin(t *testing.T) {
	for _, p := range someSets() {
		if !impl.PredWithin(p, p) || !impl.PredWithin(noStates, p) || !impl.PredWithin(p, everyState) {
			t.Errorf("%q is within itself, between the least and the greatest set", p)
		}
		for _, q := range someSets() {
			if got := impl.PredWithin(p, q); got != modelWithin(p, q) {
				t.Errorf("PredWithin(%q, %q) = %v", p, q, got)
			}
		}
	}
	for _, p := range brokenSets() {
		for _, q := range []string{noStates, everyState, p} {
			if impl.PredWithin(p, q) || impl.PredWithin(q, p) {
				t.Errorf("PredWithin of %.40q and %.40q is true", p, q)
			}
		}
	}
}

func TestCountPred(t *testing.T) {
	for _, p := range someSets() {
		if got := impl.CountPred(p); got != strings.Count(p, "1") {
			t.Errorf("CountPred(%q) = %d", p, got)
		}
	}
	for i := range noStates {
		if got := impl.CountPred(everyState[:i] + noStates[i:]); got != i {
			t.Errorf("CountPred of the first %d states = %d", i, got)
		}
	}
	if none, every := impl.CountPred(noStates), impl.CountPred(everyState); none != 0 || every != 27 {
		t.Errorf("CountPred of no states = %d, of all = %d", none, every)
	}
	for _, p := range brokenSets() {
		if got := impl.CountPred(p); got != -1 {
			t.Errorf("CountPred(%.40q) = %d", p, got)
		}
	}
}

func TestFirstState(t *testing.T) {
	for i, s := range allStates() {
		for _, p := range []string{single(i), noStates[:i] + everyState[i:], noStates[:i] + "1" + strings.Repeat("0110", 7)[:26-i]} {
			if got, ok := impl.FirstState(p); got != s || !ok {
				t.Errorf("FirstState(%q) = %v, %v, want %v", p, got, ok, s)
			}
		}
	}
	for _, p := range append(brokenSets(), noStates) {
		if got, ok := impl.FirstState(p); got != (impl.State{}) || ok {
			t.Errorf("FirstState(%.40q) = %v, %v", p, got, ok)
		}
	}
}

func TestPredVars(t *testing.T) {
	tests := map[string]string{
		"t": "", "f": "", "=xx": "", "=x0": "x", "=y1": "y", "=z2": "z", "=xy": "xy", "<zx": "xz", "=yz": "yz",
		"=+xyz": "xyz", "&=x1&=y1=z1": "xyz", "=*0xy": "y", "|=x0|=x1=x2": "", "&=z1=z2": "", "=-xx-yy": "", "!<zy": "yz",
	}
	for test, want := range tests {
		if got := impl.PredVars(modelPredOf(test)); got != want {
			t.Errorf("PredVars of %q = %q, want %q", test, got, want)
		}
	}
	for _, p := range someSets() {
		if got := impl.PredVars(p); got != modelPredVars(p) {
			t.Errorf("PredVars(%q) = %q, want %q", p, got, modelPredVars(p))
		}
	}
	for _, p := range brokenSets() {
		if got := impl.PredVars(p); got != "" {
			t.Errorf("PredVars(%.40q) = %q", p, got)
		}
	}
}

func TestAssignOfEveryForm(t *testing.T) {
	cases := []struct{ p, v, e, pre, post string }{
		{"=x0", "x", "-y1", "=y1", "&=x-y1t"},
		{"=x0", "x", "+x1", "=x2", "=x1"}, // the variable occurs in its expression
		{"=x1", "x", "x", "=x1", "=x1"},
		{"=x1", "y", "2", "=x1", "&=x1=y2"}, // the set does not depend on the variable
		{"=x1", "x", "1", "t", "=x1"},
		{"=x1", "x", "0", "f", "=x0"},
		{"=x2", "x", "*xx", "f", "=x1"},
		{"t", "x", "*xx", "t", "<x2"},
		{"t", "z", "+yz", "t", "t"},
		{"t", "z", "y", "t", "=zy"},
		{"f", "z", "y", "f", "f"},
		{"=zy", "z", "y", "t", "=zy"},
		{"=xy", "x", "+xy", "=x0", "=x+yy"},
	}
	for _, c := range cases {
		p := modelPredOf(c.p)
		got, ok := impl.AssignPre(p, c.v, c.e)
		wantText(t, "AssignPre of "+c.p+", "+c.v+", "+c.e, got, ok, modelPredOf(c.pre), true)
		got, ok = impl.AssignPost(p, c.v, c.e)
		wantText(t, "AssignPost of "+c.p+", "+c.v+", "+c.e, got, ok, modelPredOf(c.post), true)
	}
}

func TestAssignAgainstTheModel(t *testing.T) {
	for _, e := range append(shortExprs(), "+-x*2y*-01+zz", "-x-y-z-12", longSum(199)) {
		for _, v := range letters() {
			for _, p := range fewSets() {
				got, ok := impl.AssignPre(p, v, e)
				wantText(t, "AssignPre of "+p+", "+v+", "+e, got, ok, modelPre(p, v, e), true)
				got, ok = impl.AssignPost(p, v, e)
				wantText(t, "AssignPost of "+p+", "+v+", "+e, got, ok, modelPost(p, v, e), true)
			}
		}
	}
	for i := range noStates {
		for _, v := range letters() {
			got, ok := impl.AssignPost(single(i), v, "+xy")
			wantText(t, "AssignPost of one state", got, ok, modelPost(single(i), v, "+xy"), true)
			got, ok = impl.AssignPre(single(i), v, "+xy")
			wantText(t, "AssignPre of one state", got, ok, modelPre(single(i), v, "+xy"), true)
		}
	}
}

func TestAssignOfInvalidArguments(t *testing.T) {
	check := func(p, v, e string) {
		t.Helper()
		got, ok := impl.AssignPre(p, v, e)
		wantText(t, "AssignPre of "+p+", "+v+", "+e, got, ok, "", false)
		got, ok = impl.AssignPost(p, v, e)
		wantText(t, "AssignPost of "+p+", "+v+", "+e, got, ok, "", false)
	}
	for _, p := range brokenSets() {
		check(p, "x", "y")
	}
	for _, p := range []string{noStates, everyState, single(26)} {
		for _, v := range brokenLetters() {
			check(p, v, "1")
		}
		for _, e := range append(brokenEverywhere(), "t", "f", "=xy", "!t", longSum(201)) {
			check(p, "x", e)
			check(p, "z", e)
		}
	}
	check("", "", "")
}

func TestQuantifiersOfEveryForm(t *testing.T) {
	cases := []struct{ p, v, some, all string }{
		{"=xy", "x", "t", "f"}, {"=xy", "z", "=xy", "=xy"}, {"=x0", "y", "=x0", "=x0"}, {"=x0", "x", "t", "f"},
		{"t", "x", "t", "t"}, {"f", "z", "f", "f"}, {"<xy", "x", "!=y0", "f"}, {"<xy", "y", "!=x2", "f"},
		{"|=x0=y1", "x", "t", "=y1"}, {"|=x0=y1", "y", "t", "=x0"}, {"&=x0=z1", "z", "=x0", "f"}, {"&=x0=z1", "x", "=z1", "f"},
		{"!=zy", "z", "t", "f"}, {"|<y2=z2", "z", "t", "<y2"}, {"<x1", "x", "t", "f"}, {"!=x1", "x", "t", "f"},
	}
	for _, c := range cases {
		p := modelPredOf(c.p)
		got, ok := impl.SomeVar(p, c.v)
		wantText(t, "SomeVar of "+c.p+", "+c.v, got, ok, modelPredOf(c.some), true)
		got, ok = impl.AllVar(p, c.v)
		wantText(t, "AllVar of "+c.p+", "+c.v, got, ok, modelPredOf(c.all), true)
	}
	for _, p := range someSets() {
		for _, v := range letters() {
			got, ok := impl.SomeVar(p, v)
			wantText(t, "SomeVar of "+p+", "+v, got, ok, modelSet(func(s impl.State) bool { return modelCount(p, s, v) > 0 }), true)
			got, ok = impl.AllVar(p, v)
			wantText(t, "AllVar of "+p+", "+v, got, ok, modelSet(func(s impl.State) bool { return modelCount(p, s, v) == 3 }), true)
		}
	}
}

func TestQuantifiersOfInvalidArguments(t *testing.T) {
	check := func(p, v string) {
		t.Helper()
		got, ok := impl.SomeVar(p, v)
		wantText(t, "SomeVar of "+p+", "+v, got, ok, "", false)
		got, ok = impl.AllVar(p, v)
		wantText(t, "AllVar of "+p+", "+v, got, ok, "", false)
	}
	for _, p := range brokenSets() {
		check(p, "x")
		check(p, "")
	}
	for _, v := range brokenLetters() {
		check(noStates, v)
		check(everyState, v)
	}
}

// Promise 2, its first half, and what it has to do with promise 1.
func TestAssignmentsLeadFromOneSetIntoAnother(t *testing.T) {
	for _, e := range []string{"0", "2", "x", "y", "z", "+x1", "*xx", "+yz", "-xz", "*yz", "+x*2y"} {
		for _, v := range letters() {
			for _, q := range fewSets() {
				checkAdjunction(t, v, e, q)
			}
			for _, test := range []string{"t", "f", "=xy", "<zx", "!=y1", "&=x1<yz", "|=z0=x+yz"} {
				put, _ := impl.SubstTest(test, v, e)
				got, ok := impl.AssignPre(modelPredOf(test), v, e)
				wantText(t, "AssignPre of "+test+", "+v+", "+e, got, ok, modelPredOf(put), true)
			}
		}
	}
}

func checkAdjunction(t *testing.T, v, e, q string) {
	t.Helper()
	pre, preOK := impl.AssignPre(q, v, e)
	for _, p := range append(fewSets(), pre) {
		post, ok := impl.AssignPost(p, v, e)
		if leads := impl.PredWithin(post, q); !ok || !preOK || leads != impl.PredWithin(p, pre) || leads != modelWithin(modelPost(p, v, e), q) {
			t.Fatalf("%s := %s leads from %s into %s: %v, with the image %q and the preimage %q", v, e, p, q, leads, post, pre)
		}
	}
}

// Promise 2, its second half: of the sets that do not depend on the variable,
// SomeVar is the least one above, and AllVar the greatest one below.
func TestQuantifiersAreBounds(t *testing.T) {
	for _, v := range letters() {
		for _, p := range someSets() {
			some, _ := impl.SomeVar(p, v)
			all, _ := impl.AllVar(p, v)
			if !impl.PredWithin(all, p) || !impl.PredWithin(p, some) {
				t.Fatalf("%q is not between its bounds %q and %q for %s", p, all, some, v)
			}
			if strings.Contains(impl.PredVars(some)+impl.PredVars(all), v) {
				t.Fatalf("the bounds %q and %q of %q depend on %s", all, some, p, v)
			}
			if depends := strings.Contains(impl.PredVars(p), v); depends == (some == p) || depends == (all == p) {
				t.Fatalf("%q depends on %s: %v, with the bounds %q and %q", p, v, depends, all, some)
			}
			checkBounds(t, p, v, some, all)
		}
	}
}

func checkBounds(t *testing.T, p, v, some, all string) {
	t.Helper()
	for _, q := range someSets() {
		free := modelSet(func(s impl.State) bool { return inModel(q, modelWith(s, v, 1)) })
		if impl.PredWithin(p, free) != impl.PredWithin(some, free) || impl.PredWithin(free, p) != impl.PredWithin(free, all) {
			t.Fatalf("%q and %q are not the bounds of %q for %s: see %q", all, some, p, v, free)
		}
	}
}
