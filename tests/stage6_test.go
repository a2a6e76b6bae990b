package tests

import (
	"strings"
	"testing"

	"loop.example/productprograms/impl"
)

func TestWideTests(t *testing.T) {
	cases := []struct {
		w, s, t string
		is      bool
	}{
		{"=xY", "100", "010", true}, {"=xY", "010", "100", true}, {"=xY", "100", "100", false}, {"=xX", "012", "021", true}, {"=yY", "012", "021", false}, {"=Xx", "200", "100", false},
		{"<xX", "100", "200", true}, {"<xX", "200", "100", false}, {"<Xx", "200", "100", true}, {"<zZ", "001", "002", true}, {"<zZ", "220", "002", true}, {"<Zz", "222", "220", true},
		{"=+xX0", "100", "200", true}, {"=-xX1", "000", "200", true}, {"=*xYz", "201", "020", true}, {"=+x*2YZ", "110", "112", false}, {"=+x*2YZ", "100", "010", true},
		{"!=xX", "100", "100", false}, {"&=xX=yY", "120", "121", true}, {"&=xX=yY", "120", "111", false}, {"|=xX=yY", "120", "111", true}, {"|=xX=yY", "120", "211", false},
		// Letters of one state alone, and none.
		{"=x1", "100", "000", true}, {"=x1", "000", "100", false}, {"=X1", "100", "000", false}, {"=X1", "000", "100", true}, {"<yz", "012", "021", true}, {"<YZ", "012", "021", false},
		{"t", "000", "222", true}, {"f", "000", "222", false}, {"=11", "000", "000", true}, {"!t", "222", "222", false}, {"<+121", "000", "000", true},
	}
	for _, c := range cases {
		if !impl.WideValid(c.w) {
			t.Errorf("WideValid(%q) = false", c.w)
		}
		wantWide(t, c.w, stateOf(c.s), stateOf(c.t), c.is, true)
	}
}

func wantWide(t *testing.T, w string, s, to impl.State, want, wantOK bool) {
	t.Helper()
	if is, ok := impl.EvalWide(w, s, to); is != want || ok != wantOK {
		t.Errorf("EvalWide(%.220q, %v, %v) = %v, %v, want %v, %v", w, s, to, is, ok, want, wantOK)
	}
}

func TestWideTestsAgainstTheModel(t *testing.T) {
	for _, w := range wideTests() {
		if !impl.WideValid(w) || !modelWideValid(w) {
			t.Errorf("WideValid(%q) = false", w)
		}
		want := modelRelOf(w)
		got, ok := impl.RelOf(w)
		wantText(t, "RelOf of "+w, got, ok, want, true)
		for i, s := range allStates() {
			for j, to := range allStates() {
				wantWide(t, w, s, to, inRel(want, i, j), true)
			}
		}
	}
}

// All texts of up to four letters of wide tests are told from all others.
func TestShortWideTexts(t *testing.T) {
	t.Parallel()
	signs := strings.Split("tfxXZ1+=<!&w", "")
	texts := []string{""}
	valid := 0
	for from, length := 0, 1; length <= 4; length++ {
		to := len(texts)
		for _, before := range texts[from:to] {
			for _, sign := range signs {
				texts = append(texts, before+sign)
			}
		}
		from = to
	}
	for _, w := range texts {
		want := modelWideValid(w)
		if got := impl.WideValid(w); got != want {
			t.Errorf("WideValid(%q) = %v", w, got)
		}
		if want {
			valid++
		}
	}
	if valid < 80 {
		t.Errorf("only %d texts are valid", valid)
	}
}

// A test of one state is a wide test that speaks of the first one alone.
func TestTestsAreWide(t *testing.T) {
	second := allStates()
	for n, test := range someTests() {
		if !impl.WideValid(test) {
			t.Errorf("WideValid(%q) = false", test)
		}
		for i, s := range allStates() {
			is, _ := impl.EvalTest(test, s)
			wantWide(t, test, s, second[(n+i)%27], is, true)
		}
	}
}

// In capitals alone, a test speaks of the second state; its letters t and f have
// no capitals.
func TestWideTestsOfTheSecondState(t *testing.T) {
	for _, test := range someTests() {
		w := strings.NewReplacer("x", "X", "y", "Y", "z", "Z").Replace(test)
		for i, s := range allStates() {
			is, _ := impl.EvalTest(test, s)
			wantWide(t, w, allStates()[(7*i+2)%27], s, is, true)
		}
		got, _ := impl.RelOf(w)
		turned, _ := impl.RelOf(test)
		turned, ok := impl.TurnRel(turned)
		wantText(t, "TurnRel of the relation of "+test, turned, ok, got, true)
	}
}

func TestWideTestsOfWhatIsNone(t *testing.T) {
	for _, w := range textsThatAreNoWideTests() {
		if impl.WideValid(w) || modelWideValid(w) {
			t.Errorf("WideValid(%.60q) = true", w)
		}
		wantWide(t, w, impl.State{}, impl.State{X: 1, Y: 2}, false, false)
		got, ok := impl.RelOf(w)
		wantText(t, "RelOf of what is no wide test", got, ok, "", false)
	}
	for _, bad := range brokenStates() {
		for _, w := range []string{"t", "=xX", "!f", "=11", "x"} {
			wantWide(t, w, bad, impl.State{}, false, false)
			wantWide(t, w, impl.State{X: 1}, bad, false, false)
			wantWide(t, w, bad, bad, false, false)
		}
	}
}

// The letters of a second state are no variables where a text is not wide.
func TestOnlyWideTestsHaveCapitals(t *testing.T) {
	for _, w := range wideTests() {
		if narrow := !strings.ContainsAny(w, "XYZ"); impl.TestValid(w) != narrow || len(w) < 198 && impl.ProgramValid("~"+w) != narrow {
			t.Errorf("TestValid or ProgramValid of %q = %v", w, !narrow)
		}
	}
	for _, e := range []string{"X", "Y", "Z", "+xX", "*Z1"} {
		if impl.ExprValid(e) || impl.ProgramValid("ax"+e) {
			t.Errorf("%q is valid", e)
		}
	}
}

func TestRelOf(t *testing.T) {
	cases := []struct {
		w     string
		count int
		first string
	}{
		{"=xY", 243, "000 000"}, {"t", 729, "000 000"}, {"f", 0, ""}, {"&=xX&=yY=zZ", 27, "000 000"}, {"=xX", 243, "000 000"}, {"<xX", 243, "000 100"}, {"<Xx", 243, "100 000"},
		{"=x1", 243, "100 000"}, {"=X1", 243, "000 100"}, {"=Z2", 243, "000 002"}, {"=z2", 243, "002 000"}, {"&=x1=Y2", 81, "100 020"}, {"&&=x2=y2&=z2&=X2&=Y2=Z2", 1, "222 222"},
		{"&&=x2=y2&=z2&=X0&=Y0=Z0", 1, "222 000"}, {"&&=x0=y0&=z0&=X2&=Y2=Z2", 1, "000 222"}, {"!=xX", 486, "000 100"}, {"|=zZ=z0", 405, "000 000"},
	}
	for _, c := range cases {
		r, ok := impl.RelOf(c.w)
		if !ok || !impl.RelValid(r) || len(r) != impl.Pairs {
			t.Errorf("RelOf(%q) = %q, %v", c.w, r, ok)
		}
		if got := impl.CountRel(r); got != c.count {
			t.Errorf("CountRel of %s = %d, want %d", c.w, got, c.count)
		}
		wantFirst(t, r, c.first)
	}
}

// wantFirst compares the first pair with two states, or with none.
func wantFirst(t *testing.T, r, want string) {
	t.Helper()
	var first, second impl.State
	if want != "" {
		first, second = stateOf(want[:3]), stateOf(want[4:])
	}
	if s, to, ok := impl.FirstPair(r); s != first || to != second || ok != (want != "") {
		t.Errorf("FirstPair(%.60q) = %v, %v, %v, want %q", r, s, to, ok, want)
	}
}

func TestRelOfProgram(t *testing.T) {
	cases := []struct{ p, w string }{
		{"s", "&=xX&=yY=zZ"}, {"ax+x1", "&=X+x1&=yY=zZ"}, {"az*xy", "&=xX&=yY=Z*xy"}, {"~f", "f"}, {"@ts", "f"}, {"~=xy", "&=xy&=xX&=yY=zZ"}, {"ax0", "&=X0&=yY=zZ"},
		{"/ax1ax2", "&<0X&=yY=zZ"}, {"/s~f", "&=xX&=yY=zZ"}, {"/ax0@ts", "&=X0&=yY=zZ"}, {"@<x2ax+x1", "&=X2&=yY=zZ"}, {"@=x1s", "&!=x1&=xX&=yY=zZ"}, {"@<x2/ax+x1ax0", "&=X2&=yY=zZ"},
		{"/ax0/ax1ax2", "&=yY=zZ"}, {";;/ax0/ax1ax2/ay0/ay1ay2/az0/az1az2", "t"}, {";/ax0/ax1ax2~<xy", "&<Xy&=yY=zZ"}, {"?=x0~f@tay1", "f"},
	}
	for _, c := range cases {
		got, ok := impl.RelOfProgram(c.p)
		wantText(t, "RelOfProgram of "+c.p, got, ok, modelRelOf(c.w), true)
	}
}

func TestRelOfProgramAgainstTheModel(t *testing.T) {
	t.Parallel()
	for n, p := range append(programsToRun(), someLoops()...) {
		r, ok := impl.RelOfProgram(p)
		wantText(t, "RelOfProgram of "+p, r, ok, modelRelOfProgram(p), true)
		s := allStates()[n%27]
		may, _ := impl.RunsFrom(p, s)
		if from := 27 * numberOf(s); r[from:from+27] != may.Finals {
			t.Errorf("RelOfProgram(%q) differs from RunsFrom in %v", p, s)
		}
	}
}

func TestAgreeOn(t *testing.T) {
	counts := map[string]int{"": 729, "x": 243, "y": 243, "z": 243, "xy": 81, "xz": 81, "yz": 81, "xyz": 27}
	tests := map[string]string{"": "t", "x": "=xX", "y": "=yY", "z": "=zZ", "xy": "&=xX=yY", "xz": "&=xX=zZ", "yz": "&=yY=zZ", "xyz": "&=xX&=yY=zZ"}
	for _, vars := range lettersToAgreeOn() {
		r, ok := impl.AgreeOn(vars)
		wantText(t, "AgreeOn of "+vars, r, ok, modelAgree(vars), true)
		if got := impl.CountRel(r); got != counts[vars] {
			t.Errorf("CountRel of AgreeOn of %q = %d", vars, got)
		}
		got, _ := impl.RelOf(tests[vars])
		wantText(t, "RelOf of "+tests[vars], got, ok, r, true)
	}
	// Letters may be empty; they are neither doubled nor in another order.
	for _, vars := range brokenAgreements() {
		r, ok := impl.AgreeOn(vars)
		wantText(t, "AgreeOn of what are no letters of variables", r, ok, "", false)
	}
}

// The given example.
func TestExampleOfRelations(t *testing.T) {
	r, ok := impl.RelOf("=xY")
	if !ok || impl.CountRel(r) != 243 || !impl.HasPair(r, stateOf("100"), stateOf("010")) || impl.HasPair(r, stateOf("010"), stateOf("010")) {
		t.Errorf("RelOf(=xY) = %q, %v", r, ok)
	}
}

// The byte with the index 27 times i plus j tells of the states with the numbers
// i and j.
func TestPlacesOfPairs(t *testing.T) {
	states := allStates()
	for k := range 729 {
		r := otherwise(noPairs, k)
		s, to := states[k/27], states[k%27]
		wantFirst(t, r, impl.FormatState(s)+" "+impl.FormatState(to))
		if !impl.RelValid(r) || impl.CountRel(r) != 1 || !impl.HasPair(r, s, to) {
			t.Errorf("the pair of %v and %v is not at %d", s, to, k)
		}
		without := otherwise(everyPair, k)
		if impl.CountRel(without) != 728 || impl.HasPair(without, s, to) || (k > 0) != impl.HasPair(without, states[0], states[0]) {
			t.Errorf("the pair of %v and %v is not at %d", s, to, k)
		}
		got, ok := impl.NotRel(r)
		wantText(t, "NotRel of one pair", got, ok, without, true)
		got, ok = impl.TurnRel(r)
		wantText(t, "TurnRel of one pair", got, ok, otherwise(noPairs, k%27*27+k/27), true)
		got, ok = impl.OrRel(r, noPairs)
		wantText(t, "OrRel of one pair and none", got, ok, r, true)
		got, ok = impl.AndRel(r, without)
		wantText(t, "AndRel of one pair and all others", got, ok, noPairs, true)
		if impl.RelWithin(r, without) || impl.RelWithin(r, noPairs) || !impl.RelWithin(r, everyPair) || !impl.RelWithin(noPairs, r) || impl.RelWithin(everyPair, without) {
			t.Errorf("RelWithin of the pair at %d", k)
		}
	}
}

// Every function of one relation is compared with the model.
func TestRelationsAgainstTheModel(t *testing.T) {
	t.Parallel()
	states := allStates()
	for _, r := range someRels() {
		if got := impl.CountRel(r); !impl.RelValid(r) || got != strings.Count(r, "1") {
			t.Errorf("CountRel(%q) = %d", r, got)
		}
		first := ""
		if at := strings.Index(r, "1"); at >= 0 {
			first = impl.FormatState(states[at/27]) + " " + impl.FormatState(states[at%27])
		}
		wantFirst(t, r, first)
		for i, s := range states {
			for j, to := range states {
				if impl.HasPair(r, s, to) != inRel(r, i, j) {
					t.Fatalf("HasPair(%q, %v, %v) = %v", r, s, to, !inRel(r, i, j))
				}
			}
		}
		got, ok := impl.NotRel(r)
		wantText(t, "NotRel of "+r, got, ok, modelNot(r), true)
		got, ok = impl.TurnRel(r)
		wantText(t, "TurnRel of "+r, got, ok, modelTurn(r), true)
		got, ok = impl.CloseRel(r)
		wantText(t, "CloseRel of "+r, got, ok, modelClose(r), true)
		if got := impl.IsEquivalence(r); got != modelEquivalence(r) {
			t.Errorf("IsEquivalence(%q) = %v", r, got)
		}
		for _, p := range someSets() {
			got, ok = impl.ImageOf(r, p)
			wantText(t, "ImageOf of "+r+" and "+p, got, ok, modelRelImage(r, p), true)
			got, ok = impl.ShadowOf(r, p)
			wantText(t, "ShadowOf of "+r+" and "+p, got, ok, modelShadow(r, p), true)
		}
	}
}

// And so is every function of two.
func TestPairsOfRelationsAgainstTheModel(t *testing.T) {
	t.Parallel()
	rels := someRels()
	for n, r := range rels {
		for m, q := range rels {
			got, ok := impl.AndRel(r, q)
			wantText(t, "AndRel of "+r+" and "+q, got, ok, modelRel(func(i, j int) bool { return inRel(r, i, j) && inRel(q, i, j) }), true)
			got, ok = impl.OrRel(r, q)
			wantText(t, "OrRel of "+r+" and "+q, got, ok, modelRel(func(i, j int) bool { return inRel(r, i, j) || inRel(q, i, j) }), true)
			if got := impl.RelWithin(r, q); got != modelWithin(r, q) {
				t.Errorf("RelWithin(%q, %q) = %v", r, q, got)
			}
			if n < 4 || m < 4 || (n+m)%5 == 0 {
				got, ok = impl.ComposeRel(r, q)
				wantText(t, "ComposeRel of "+r+" and "+q, got, ok, modelCompose(r, q), true)
			}
		}
	}
}

func TestComposeRel(t *testing.T) {
	cases := []struct{ r, q, want string }{
		{"=xY", "=yZ", "=xZ"}, {"=xX", "=xX", "=xX"}, {"=xY", "=xX", "t"}, {"=xX", "=xY", "=xY"}, {"<xX", "<xX", "&=x0=X2"}, {"!=xX", "!=xX", "t"}, {"=x1", "=X2", "&=x1=X2"},
		// Relations of states that are related to none, and that none is related to.
		{"f", "t", "f"}, {"t", "f", "f"}, {"f", "f", "f"}, {"t", "t", "t"}, {"=X1", "=x2", "f"}, {"=X1", "=x1", "t"}, {"&=x0=X1", "&=x1=X2", "&=x0=X2"}, {"&=x1=X2", "&=x0=X1", "f"},
		{"&=xX&=yY=zZ", "=xY", "=xY"}, {"=xY", "&=xX&=yY=zZ", "=xY"}, {"&=X+x1&=yY=zZ", "&=X+x1&=yY=zZ", "&=X+x2&=yY=zZ"}, {"=x0", "<xX", "&=x0!=X0"}, {"<xX", "=X0", "&<x2=X0"},
	}
	for _, c := range cases {
		got, ok := impl.ComposeRel(modelRelOf(c.r), modelRelOf(c.q))
		wantText(t, "ComposeRel of "+c.r+" and "+c.q, got, ok, modelRelOf(c.want), true)
	}
}

func TestCloseRel(t *testing.T) {
	cases := []struct{ r, want string }{
		{"f", "&=xX&=yY=zZ"}, {"t", "t"}, {"&=xX&=yY=zZ", "&=xX&=yY=zZ"}, {"&=X+x1&=yY=zZ", "&=yY=zZ"}, {"&=X+x1=yY", "=yY"}, {"=xX", "=xX"}, {"!=xX", "t"},
		{"<xX", "|<xX&=xX&=yY=zZ"}, {"=xY", "t"}, {"&=x0=X1", "|&=x0=X1&=xX&=yY=zZ"}, {"&!=x2&=X+x1&=yY=zZ", "&!<Xx&=yY=zZ"}, {"=X1", "|=X1&=xX&=yY=zZ"}, {"=x1", "|=x1&=xX&=yY=zZ"},
	}
	for _, c := range cases {
		got, ok := impl.CloseRel(modelRelOf(c.r))
		wantText(t, "CloseRel of "+c.r, got, ok, modelRelOf(c.want), true)
	}
}

// A chain needs as many steps as there are states, whatever their order is; with
// one pair more, it leads from each state to all others.
func TestCloseChains(t *testing.T) {
	for _, r := range chains() {
		closed, ok := impl.CloseRel(r)
		wantText(t, "CloseRel of a chain", closed, ok, modelClose(r), true)
		if got := impl.CountRel(closed); got != 27*28/2 {
			t.Errorf("CountRel of the closure of a chain = %d", got)
		}
		around := r
		for k := range 729 {
			// The pair of the last state and the first one of the chain.
			if !strings.Contains(r[k/27*27:k/27*27+27], "1") && modelRelImage(r, everyState)[k%27] == '0' {
				around = otherwise(r, k)
			}
		}
		if impl.CountRel(around) != 27 {
			t.Fatalf("no ring: %q", around)
		}
		closed, ok = impl.CloseRel(around)
		wantText(t, "CloseRel of a ring", closed, ok, everyPair, true)
		for k := range 729 {
			if r[k] == '1' {
				cut := otherwise(r, k)
				closed, ok = impl.CloseRel(cut)
				wantText(t, "CloseRel of a chain that is cut", closed, ok, modelClose(cut), true)
			}
		}
	}
	counting, _ := impl.RelOfProgram(countingBody)
	upwards, ok := impl.CloseRel(counting)
	wantText(t, "CloseRel of "+countingBody, upwards, ok, modelRel(func(i, j int) bool { return i <= j }), true)
}

func TestImagesAndShadows(t *testing.T) {
	cases := []struct{ r, p, image, shadow string }{
		{"&=xX&=yY=zZ", "=xy", "=xy", "=xy"}, {"=xY", "=x1", "=y1", "f"}, {"=xY", "=y1", "t", "=x1"}, {"=xY", "!=y1", "t", "!=x1"}, {"<xX", "=x1", "=x2", "=x2"}, {"<xX", "=x0", "!=x0", "=x2"}, {"<xX", "=x2", "f", "!=x0"},
		// States that are related to none are in no image, and in every shadow.
		{"f", "t", "f", "t"}, {"f", "f", "f", "t"}, {"f", "=x1", "f", "t"}, {"=x1", "=x2", "f", "!=x1"}, {"=x1", "=x1", "t", "!=x1"}, {"&=x1=X2", "=x1", "=x2", "!=x1"}, {"&=x1=X2", "=x2", "f", "t"}, {"&=x1=X2", "f", "f", "!=x1"},
		{"t", "f", "f", "f"}, {"t", "t", "t", "t"}, {"t", "&=x0&=y0=z0", "t", "f"}, {"t", "!&=x0&=y0=z0", "t", "f"}, {"=X1", "=x0", "=x1", "f"}, {"=X1", "=x1", "=x1", "t"}, {"&=X+x1&=yY=zZ", "=x1", "=x2", "=x0"},
	}
	for _, c := range cases {
		r, p := modelRelOf(c.r), modelPredOf(c.p)
		got, ok := impl.ImageOf(r, p)
		wantText(t, "ImageOf of "+c.r+" and "+c.p, got, ok, modelPredOf(c.image), true)
		got, ok = impl.ShadowOf(r, p)
		wantText(t, "ShadowOf of "+c.r+" and "+c.p, got, ok, modelPredOf(c.shadow), true)
	}
}

// Relations that have one pair more or less than an equivalence, or one pair and
// the turned one, are compared with the model.
func TestNearlyEquivalences(t *testing.T) {
	t.Parallel()
	for _, r := range partitions() {
		if !impl.IsEquivalence(r) {
			t.Errorf("IsEquivalence(%q) = false", r)
		}
		for k := range 729 {
			near := otherwise(r, k)
			if impl.IsEquivalence(near) {
				t.Errorf("IsEquivalence(%q) = true", near)
			}
			if turned := k%27*27 + k/27; turned > k {
				near = otherwise(near, turned)
				if got := impl.IsEquivalence(near); got != modelEquivalence(near) {
					t.Errorf("IsEquivalence(%q) = %v", near, got)
				}
			}
		}
	}
}

func TestIsEquivalence(t *testing.T) {
	cases := []struct {
		w  string
		is bool
	}{
		{"t", true}, {"&=xX&=yY=zZ", true}, {"=xX", true}, {"&=xX=zZ", true}, {"=+xy+XY", true}, {"|&=x0=X0&!=x0!=X0", true}, {"=*xy*XY", true}, {"|=xX&=y0=Y0", false},
		// No pairs; not reflexive; not symmetric; not transitive.
		{"f", false}, {"&=x0=X0", false}, {"!=xX", false}, {"!<Xx", false}, {"<xX", false}, {"|=xX|=x1=X1", false}, {"|=xX&<xX=yY", false}, {"=xY", false}, {"=x1", false}, {"=X1", false}, {"|=x1=X1", false},
	}
	for _, c := range cases {
		if got := impl.IsEquivalence(modelRelOf(c.w)); got != c.is {
			t.Errorf("IsEquivalence of %s = %v", c.w, got)
		}
	}
}

// checkNoRel checks every result that the chapter states for a text that is no
// relation, beside another text.
func checkNoRel(t *testing.T, bad, other string) {
	t.Helper()
	if impl.RelValid(bad) || impl.IsEquivalence(bad) || impl.RelWithin(bad, other) || impl.RelWithin(other, bad) || impl.RelWithin(bad, bad) {
		t.Errorf("RelValid, IsEquivalence or RelWithin of %.60q is true", bad)
	}
	for _, s := range []impl.State{{}, {X: 2, Y: 2, Z: 2}, {X: 1}} {
		if impl.HasPair(bad, s, s) || impl.HasPair(bad, impl.State{}, s) {
			t.Errorf("HasPair of %.60q is true", bad)
		}
	}
	wantFirst(t, bad, "")
	if got := impl.CountRel(bad); got != -1 {
		t.Errorf("CountRel(%.60q) = %d", bad, got)
	}
	for name, of := range map[string]func(string) (string, bool){"NotRel": impl.NotRel, "TurnRel": impl.TurnRel, "CloseRel": impl.CloseRel} {
		got, ok := of(bad)
		wantText(t, name+" of what is no relation", got, ok, "", false)
	}
	for name, of := range map[string]func(string, string) (string, bool){"AndRel": impl.AndRel, "OrRel": impl.OrRel, "ComposeRel": impl.ComposeRel} {
		for _, pair := range [][2]string{{bad, other}, {other, bad}, {bad, bad}} {
			got, ok := of(pair[0], pair[1])
			wantText(t, name+" of what is no relation", got, ok, "", false)
		}
	}
	for name, of := range map[string]func(string, string) (string, bool){"ImageOf": impl.ImageOf, "ShadowOf": impl.ShadowOf} {
		for _, p := range []string{noStates, everyState, bad, other} {
			got, ok := of(bad, p)
			wantText(t, name+" of what is no relation", got, ok, "", false)
		}
	}
}

func TestRelationsOfWhatIsNone(t *testing.T) {
	for _, bad := range brokenRels() {
		for _, other := range []string{noPairs, everyPair, equalPairs} {
			checkNoRel(t, bad, other)
		}
	}
}

func TestRelationsWithOtherInvalidArguments(t *testing.T) {
	for _, p := range textsThatAreNoPrograms() {
		got, ok := impl.RelOfProgram(p)
		wantText(t, "RelOfProgram of what is no program", got, ok, "", false)
	}
	for _, bad := range append(brokenSets(), noPairs, everyPair) {
		for _, r := range []string{noPairs, everyPair, equalPairs, ""} {
			got, ok := impl.ImageOf(r, bad)
			wantText(t, "ImageOf of what is no set", got, ok, "", false)
			got, ok = impl.ShadowOf(r, bad)
			wantText(t, "ShadowOf of what is no set", got, ok, "", false)
		}
	}
	for _, bad := range brokenStates() {
		for _, s := range allStates() {
			if impl.HasPair(everyPair, bad, s) || impl.HasPair(everyPair, s, bad) || impl.HasPair(everyPair, bad, bad) || impl.HasPair("", s, s) {
				t.Errorf("HasPair of %v and %v is true", bad, s)
			}
		}
	}
}

// Promise 6: the relation of programs in sequence is composed of theirs.
func TestProgramsInSequenceCompose(t *testing.T) {
	t.Parallel()
	programs := append(fewStatements(), movingPrograms()...)
	joins := 0
	for n, p := range programs {
		first, _ := impl.RelOfProgram(p)
		for k := range 4 {
			q := programs[(n*(k+3)+41*k)%len(programs)]
			joined, ok := impl.JoinPrograms(p, q)
			if !ok {
				continue
			}
			joins++
			second, _ := impl.RelOfProgram(q)
			want, _ := impl.ComposeRel(first, second)
			got, ok := impl.RelOfProgram(joined)
			wantText(t, "RelOfProgram of "+joined, got, ok, want, true)
		}
	}
	if joins < 500 {
		t.Errorf("there are only %d programs in sequence", joins)
	}
}

// Promise 6: a closure is closed, has what it is to have, and nothing else: each
// pair is that of a state with itself, or is joined by fewer steps than there are
// states.
func TestClosuresAreLeast(t *testing.T) {
	t.Parallel()
	rels := someRels()
	for _, r := range rels {
		closed, ok := impl.CloseRel(r)
		wantClosed(t, closed)
		if !ok || !impl.RelWithin(r, closed) || !impl.RelWithin(equalPairs, closed) {
			t.Fatalf("CloseRel(%q) = %q, %v", r, closed, ok)
		}
		again, _ := impl.CloseRel(closed)
		wantText(t, "CloseRel of a closure", again, ok, closed, true)
		steps, all := equalPairs, equalPairs
		for range 26 {
			steps, _ = impl.ComposeRel(steps, r)
			all, _ = impl.OrRel(all, steps)
		}
		wantText(t, "CloseRel of "+r, closed, ok, all, true)
		for _, q := range rels {
			if both, _ := impl.AndRel(r, q); impl.RelWithin(equalPairs, q) && both == r && isClosed(q) && !impl.RelWithin(closed, q) {
				t.Fatalf("the closure of %q is not within %q, which is closed: %q", r, q, closed)
			}
		}
	}
}

// isClosed reports whether two pairs are never joined to one that is not there.
func isClosed(r string) bool {
	twice, ok := impl.ComposeRel(r, r)
	return ok && impl.RelWithin(twice, r)
}

func wantClosed(t *testing.T, r string) {
	t.Helper()
	if !isClosed(r) {
		t.Fatalf("%q is not closed", r)
	}
	if turned, _ := impl.TurnRel(r); impl.IsEquivalence(r) != (turned == r && impl.RelWithin(equalPairs, r)) {
		t.Fatalf("IsEquivalence(%q) = %v", r, impl.IsEquivalence(r))
	}
}

// Promise 6: a loop is any number of turns, until its test is false.
func TestLoopsAreClosures(t *testing.T) {
	t.Parallel()
	loops := 0
	for _, l := range loopsToRun() {
		turn, ok := impl.JoinPrograms("~"+l.test, l.body)
		if !ok || len(l.test)+len(l.body) >= 200 {
			continue
		}
		loops++
		turns, _ := impl.RelOfProgram(turn)
		turns, _ = impl.CloseRel(turns)
		leaving, _ := impl.RelOfProgram("~!" + l.test)
		want, _ := impl.ComposeRel(turns, leaving)
		got, ok := impl.RelOfProgram("@" + l.test + l.body)
		wantText(t, "RelOfProgram of the loop of "+l.test+" and "+l.body, got, ok, want, true)
	}
	if loops < 500 {
		t.Errorf("there are only %d loops", loops)
	}
}

// Images and shadows of the relation of a program are its final states and its
// weakest sets.
func TestRelationsTellOfPrograms(t *testing.T) {
	t.Parallel()
	sets := fewSets()
	for n, p := range append(fewStatements(), countingProgram(300)) {
		r, _ := impl.RelOfProgram(p)
		for _, set := range append(turned(sets, 3*n, 6), noStates, everyState) {
			want, _ := impl.PostOf(p, set)
			got, ok := impl.ImageOf(r, set)
			wantText(t, "ImageOf of the relation of "+p+" and "+set, got, ok, want, true)
			want, _ = impl.WeakestFree(p, set)
			got, ok = impl.ShadowOf(r, set)
			wantText(t, "ShadowOf of the relation of "+p+" and "+set, got, ok, want, true)
		}
		ending, _ := impl.MayEnd(p)
		turned, _ := impl.TurnRel(r)
		got, ok := impl.ImageOf(turned, everyState)
		wantText(t, "ImageOf of the turned relation of "+p, got, ok, ending, true)
	}
}

// What holds of all relations.
func TestLawsOfRelations(t *testing.T) {
	t.Parallel()
	rels := someRels()
	sets := fewSets()
	for n, r := range rels {
		turned, _ := impl.TurnRel(r)
		again, ok := impl.TurnRel(turned)
		wantText(t, "TurnRel twice of "+r, again, ok, r, true)
		for k := range 12 {
			q := rels[(n*7+k*5)%len(rels)]
			both, _ := impl.ComposeRel(r, q)
			turnedQ, _ := impl.TurnRel(q)
			want, _ := impl.ComposeRel(turnedQ, turned)
			got, ok := impl.TurnRel(both)
			wantText(t, "TurnRel of a composition", got, ok, want, true)
			set := sets[(n+k)%len(sets)]
			between, _ := impl.ImageOf(r, set)
			want, _ = impl.ImageOf(q, between)
			got, ok = impl.ImageOf(both, set)
			wantText(t, "ImageOf of a composition", got, ok, want, true)
			between, _ = impl.ShadowOf(q, set)
			want, _ = impl.ShadowOf(r, between)
			got, ok = impl.ShadowOf(both, set)
			wantText(t, "ShadowOf of a composition", got, ok, want, true)
			outside, _ := impl.NotPred(set)
			touched, _ := impl.ImageOf(turned, outside)
			want, _ = impl.NotPred(touched)
			got, ok = impl.ShadowOf(r, set)
			wantText(t, "ShadowOf of "+r, got, ok, want, true)
		}
	}
}
