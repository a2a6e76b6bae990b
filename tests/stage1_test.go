package tests

import (
	"math"
	"strconv"
	"strings"
	"testing"

	"loop.example/productprograms/impl"
)

func TestConstantsOfStage1(t *testing.T) {
	if impl.Values != 3 || impl.MaxText != 200 {
		t.Errorf("Values = %d, MaxText = %d", impl.Values, impl.MaxText)
	}
}

func TestStateValid(t *testing.T) {
	for _, s := range allStates() {
		if !impl.StateValid(s) {
			t.Errorf("StateValid(%v) = false", s)
		}
	}
	for _, s := range brokenStates() {
		if impl.StateValid(s) {
			t.Errorf("StateValid(%v) = true", s)
		}
	}
}

// checkValidity compares both validity functions with the model.
func checkValidity(t *testing.T, text string) {
	t.Helper()
	if got, want := impl.ExprValid(text), modelExprValid(text); got != want {
		t.Errorf("ExprValid(%q) = %v", text, got)
	}
	if got, want := impl.TestValid(text), modelTestValid(text); got != want {
		t.Errorf("TestValid(%q) = %v", text, got)
	}
}

func TestValidityOfAllShortTexts(t *testing.T) {
	checkValidity(t, "")
	for a := 0; a < 256; a++ {
		checkValidity(t, string([]byte{byte(a)}))
		for _, operands := range []string{"x1", "zxy", "ft", "ttt", "=xy", "t=xyf"} {
			checkValidity(t, string([]byte{byte(a)})+operands)
			checkValidity(t, operands+string([]byte{byte(a)}))
		}
		for b := 0; b < 256; b++ {
			checkValidity(t, string([]byte{byte(a), byte(b)}))
			checkValidity(t, string([]byte{'+', byte(a), byte(b)}))
			checkValidity(t, string([]byte{'=', byte(a), byte(b)}))
			checkValidity(t, string([]byte{'&', byte(a), byte(b)}))
		}
	}
	texts := []string{""}
	for length := 1; length <= 4; length++ {
		texts = compounds("xz02+-*tf=<!&|X3 ", texts, []string{""})
		for _, text := range texts {
			checkValidity(t, text)
		}
	}
}

func TestValidityOfLongerTexts(t *testing.T) {
	for _, e := range someExprs() {
		if !impl.ExprValid(e) || impl.TestValid(e) {
			t.Errorf("%q is an expression and no test", e)
		}
		checkValidity(t, e+"x")
		checkValidity(t, e[:len(e)-1])
	}
	for _, e := range someTests() {
		if !impl.TestValid(e) || impl.ExprValid(e) {
			t.Errorf("%q is a test and no expression", e)
		}
		checkValidity(t, e+"t")
		checkValidity(t, e[:len(e)-1])
	}
	for _, text := range brokenEverywhere() {
		if impl.ExprValid(text) || impl.TestValid(text) {
			t.Errorf("%.40q is neither an expression nor a test", text)
		}
	}
}

func TestValidityAtTheLimit(t *testing.T) {
	for length, want := range map[string]bool{longSum(197): true, longSum(199): true, longSum(201): false, longSum(203): false} {
		if impl.ExprValid(length) != want {
			t.Errorf("ExprValid of %d bytes = %v", len(length), !want)
		}
	}
	for length := 195; length <= 205; length++ {
		nots := strings.Repeat("!", length-1) + "f"
		equal := strings.Repeat("!", length-3) + "=xy"
		if want := length <= 200; impl.TestValid(nots) != want || impl.TestValid(equal) != want {
			t.Errorf("TestValid of %d bytes is not %v", length, want)
		}
	}
}

func TestValidityOfHugeTexts(t *testing.T) {
	for _, letter := range []string{"x", "+", "t", "!", "&", "\xff"} {
		text := strings.Repeat(letter, 1<<22)
		if impl.ExprValid(text) || impl.TestValid(text) || impl.ExprValid(text+"x") || impl.TestValid(text+"t") {
			t.Errorf("a text of many bytes %q is valid", letter)
		}
	}
}

func TestEvalOfEveryForm(t *testing.T) {
	s := impl.State{X: 1, Y: 2, Z: 0}
	values := map[string]int{
		"0": 0, "1": 1, "2": 2, "x": 1, "y": 2, "z": 0,
		"+xx": 2, "+xy": 0, "+yy": 1, "-xy": 2, "-yx": 1, "-zy": 1, "-zx": 2, "-xx": 0,
		"*yy": 1, "*xy": 2, "*yz": 0, "+x*2y": 2, "-x-yz": 2, "--xyz": 2, "-0-0-01": 2,
		longSum(199): 1,
	}
	for e, want := range values {
		if n, ok := impl.EvalExpr(e, s); n != want || !ok {
			t.Errorf("EvalExpr(%q) = %d, %v, want %d", e, n, ok, want)
		}
	}
	truths := map[string]bool{
		"t": true, "f": false, "=xy": false, "=x1": true, "<xy": true, "<yx": false, "<xx": false,
		"!t": false, "!f": true, "!!t": true, "&tt": true, "&tf": false, "&ft": false, "&ff": false,
		"|tt": true, "|tf": true, "|ft": true, "|ff": false, "<-zxy": false, "=-zxy": true,
		strings.Repeat("!", 199) + "t": false,
	}
	for e, want := range truths {
		if is, ok := impl.EvalTest(e, s); is != want || !ok {
			t.Errorf("EvalTest(%q) = %v, %v, want %v", e, is, ok, want)
		}
	}
	if n, ok := impl.EvalExpr("+x*2y", impl.State{X: 1, Y: 1}); n != 0 || !ok {
		t.Errorf("the example of the chapter has the value %d, %v", n, ok)
	}
}

func TestEvalAgainstTheModel(t *testing.T) {
	for _, e := range someExprs() {
		for _, s := range allStates() {
			want, _, _ := modelExpr(e, s)
			if n, ok := impl.EvalExpr(e, s); n != want || !ok {
				t.Fatalf("EvalExpr(%q, %v) = %d, %v, want %d", e, s, n, ok, want)
			}
		}
	}
	for _, e := range someTests() {
		for _, s := range allStates() {
			want, _, _ := modelTest(e, s)
			if is, ok := impl.EvalTest(e, s); is != want || !ok {
				t.Fatalf("EvalTest(%q, %v) = %v, %v, want %v", e, s, is, ok, want)
			}
		}
	}
}

func TestEvalOfInvalidArguments(t *testing.T) {
	for _, s := range brokenStates() {
		for _, e := range []string{"0", "2", "x", "y", "z", "+x1", "*0y"} {
			if n, ok := impl.EvalExpr(e, s); n != 0 || ok {
				t.Errorf("EvalExpr(%q, %v) = %d, %v", e, s, n, ok)
			}
		}
		for _, e := range []string{"t", "f", "=xx", "!f", "|t=y1"} {
			if is, ok := impl.EvalTest(e, s); is || ok {
				t.Errorf("EvalTest(%q, %v) = %v, %v", e, s, is, ok)
			}
		}
	}
	s := impl.State{X: 2, Y: 2, Z: 2}
	for _, e := range append(brokenEverywhere(), "t", "=xx", "!f") {
		if n, ok := impl.EvalExpr(e, s); n != 0 || ok {
			t.Errorf("EvalExpr(%.40q) = %d, %v", e, n, ok)
		}
	}
	for _, e := range append(brokenEverywhere(), "x", "2", "+12") {
		if is, ok := impl.EvalTest(e, s); is || ok {
			t.Errorf("EvalTest(%.40q) = %v, %v", e, is, ok)
		}
	}
}

func TestVars(t *testing.T) {
	exprs := map[string]string{
		"0": "", "2": "", "+12": "", "x": "x", "y": "y", "z": "z", "+xx": "x", "+zy": "yz",
		"+z*2x": "xz", "*z-yx": "xyz", "+*zz*yx": "xyz", longSum(199): "x",
	}
	for e, want := range exprs {
		if got := impl.ExprVars(e); got != want {
			t.Errorf("ExprVars(%q) = %q, want %q", e, got, want)
		}
	}
	tests := map[string]string{
		"t": "", "f": "", "!t": "", "&tf": "", "=12": "", "=xx": "x", "<zy": "yz", "&=y1t": "y",
		"|=z0&=y0=x0": "xyz", "!<z+xx": "xz", strings.Repeat("!", 197) + "=zx": "xz",
	}
	for e, want := range tests {
		if got := impl.TestVars(e); got != want {
			t.Errorf("TestVars(%q) = %q, want %q", e, got, want)
		}
	}
	for _, e := range someExprs() {
		if got := impl.ExprVars(e); got != modelVars(e) {
			t.Errorf("ExprVars(%q) = %q", e, got)
		}
	}
	for _, e := range someTests() {
		if got := impl.TestVars(e); got != modelVars(e) {
			t.Errorf("TestVars(%q) = %q", e, got)
		}
	}
}

func TestVarsOfInvalidTexts(t *testing.T) {
	for _, e := range append(brokenEverywhere(), "=xy", "!=zz", "t") {
		if got := impl.ExprVars(e); got != "" {
			t.Errorf("ExprVars(%.40q) = %q", e, got)
		}
	}
	for _, e := range append(brokenEverywhere(), "x", "+yz", "1") {
		if got := impl.TestVars(e); got != "" {
			t.Errorf("TestVars(%.40q) = %q", e, got)
		}
	}
}

func TestSubstOfEveryForm(t *testing.T) {
	exprs := [][4]string{
		{"x", "x", "y", "y"}, {"x", "y", "z", "x"}, {"1", "x", "y", "1"},
		{"+x*2x", "x", "-y1", "+-y1*2-y1"}, {"z", "z", "+zz", "+zz"}, {"+xy", "x", "x", "+xy"},
		{"+xy", "x", "+xx", "++xxy"}, {"*yy", "y", "*yy", "**yy*yy"}, {"+xy", "x", "y", "+yy"},
		{"-xz", "z", "0", "-x0"}, {"+x+yz", "y", "+xz", "+x++xzz"},
	}
	for _, c := range exprs {
		got, ok := impl.SubstExpr(c[0], c[1], c[2])
		wantText(t, "SubstExpr of "+strings.Join(c[:3], ", "), got, ok, c[3], true)
	}
	tests := [][4]string{
		{"t", "x", "y", "t"}, {"f", "y", "1", "f"}, {"=xy", "x", "y", "=yy"}, {"&=xyt", "y", "x", "&=xxt"},
		{"!<x1", "x", "+xx", "!<+xx1"}, {"|=x0=x1", "x", "*xy", "|=*xy0=*xy1"}, {"=yz", "x", "2", "=yz"},
	}
	for _, c := range tests {
		got, ok := impl.SubstTest(c[0], c[1], c[2])
		wantText(t, "SubstTest of "+strings.Join(c[:3], ", "), got, ok, c[3], true)
	}
}

func TestSubstAtTheLimit(t *testing.T) {
	// A variable that becomes three letters adds two.
	three := strings.Repeat("+", 98) + strings.Repeat("1", 98) + "y"
	got, ok := impl.SubstExpr(three, "y", "+yx")
	wantText(t, "SubstExpr to 199 bytes", got, ok, three[:196]+"+yx", true)
	four := strings.Repeat("+", 99) + strings.Repeat("1", 99) + "y"
	got, ok = impl.SubstExpr(four, "y", "+yx")
	wantText(t, "SubstExpr to 201 bytes", got, ok, "", false)
	got, ok = impl.SubstExpr(four, "y", "x")
	wantText(t, "SubstExpr that stays at 199 bytes", got, ok, four[:198]+"x", true)
	got, ok = impl.SubstExpr(four, "z", "+yx")
	wantText(t, "SubstExpr of no variable", got, ok, four, true)
	got, ok = impl.SubstExpr("x", "x", longSum(199))
	wantText(t, "SubstExpr by 199 bytes", got, ok, longSum(199), true)
	got, ok = impl.SubstExpr("+xx", "x", longSum(199))
	wantText(t, "SubstExpr by twice 199 bytes", got, ok, "", false)
	got, ok = impl.SubstExpr(longSum(199), "x", longSum(199))
	wantText(t, "SubstExpr to 19999 bytes", got, ok, "", false)

	for length := 190; length <= 200; length++ {
		e := strings.Repeat("!", length-3) + "=y1"
		want, fits := e[:length-2]+"+xz1", length+2 <= 200
		if !fits {
			want = ""
		}
		got, ok = impl.SubstTest(e, "y", "+xz")
		wantText(t, "SubstTest to "+strconv.Itoa(length+2)+" bytes", got, ok, want, fits)
		got, ok = impl.SubstTest(e, "x", "+xz")
		wantText(t, "SubstTest of no variable", got, ok, e, true)
	}
	got, ok = impl.SubstTest("=xx", "x", strings.Repeat("+", 49)+strings.Repeat("z", 50))
	wantText(t, "SubstTest to 199 bytes", got, ok, "="+strings.Repeat(strings.Repeat("+", 49)+strings.Repeat("z", 50), 2), true)
	got, ok = impl.SubstTest("=xx", "x", longSum(101))
	wantText(t, "SubstTest to 203 bytes", got, ok, "", false)
}

func TestSubstOfInvalidArguments(t *testing.T) {
	for _, v := range brokenLetters() {
		got, ok := impl.SubstExpr("+xy", v, "z")
		wantText(t, "SubstExpr for "+v, got, ok, "", false)
		got, ok = impl.SubstTest("=xy", v, "z")
		wantText(t, "SubstTest for "+v, got, ok, "", false)
	}
	for _, by := range append(brokenEverywhere(), "t", "=xy", longSum(201)) {
		for _, v := range []string{"x", "z"} {
			got, ok := impl.SubstExpr("+xy", v, by)
			wantText(t, "SubstExpr by what is no expression", got, ok, "", false)
			got, ok = impl.SubstTest("=xy", v, by)
			wantText(t, "SubstTest by what is no expression", got, ok, "", false)
		}
	}
	for _, e := range append(brokenEverywhere(), "t", "=xy", "!t") {
		got, ok := impl.SubstExpr(e, "x", "1")
		wantText(t, "SubstExpr of what is no expression", got, ok, "", false)
	}
	for _, e := range append(brokenEverywhere(), "x", "+xy", "1") {
		got, ok := impl.SubstTest(e, "x", "1")
		wantText(t, "SubstTest of what is no test", got, ok, "", false)
	}
}

func TestShow(t *testing.T) {
	exprs := map[string]string{
		"x": "x", "y": "y", "z": "z", "0": "0", "1": "1", "2": "2",
		"+xy": "(x+y)", "-yx": "(y-x)", "*2z": "(2*z)", "+x*2y": "(x+(2*y))",
		"-+12x": "((1+2)-x)", "*-xy+zz": "((x-y)*(z+z))",
		longSum(199): strings.Repeat("(", 99) + "x" + strings.Repeat("+x)", 99),
	}
	for e, want := range exprs {
		if got := impl.ShowExpr(e); got != want {
			t.Errorf("ShowExpr(%q) = %q, want %q", e, got, want)
		}
	}
	tests := map[string]string{
		"t": "true", "f": "false", "=x1": "x=1", "<x+yz": "x<(y+z)", "=*xyz": "(x*y)=z",
		"!t": "!(true)", "!=xy": "!(x=y)", "!!f": "!(!(false))", "&tf": "(true&false)",
		"|=x1<yz": "(x=1|y<z)", "!&tf": "!((true&false))", "&!=x1|t<+xyz": "(!(x=1)&(true|(x+y)<z))",
		strings.Repeat("!", 199) + "t": strings.Repeat("!(", 199) + "true" + strings.Repeat(")", 199),
	}
	for e, want := range tests {
		if got := impl.ShowTest(e); got != want {
			t.Errorf("ShowTest(%q) = %q, want %q", e, got, want)
		}
	}
	for _, e := range append(brokenEverywhere(), "t", "f", "=xy", "!t", "&tf") {
		if got := impl.ShowExpr(e); got != "" {
			t.Errorf("ShowExpr(%.40q) = %q", e, got)
		}
	}
	for _, e := range append(brokenEverywhere(), "x", "0", "+xy", "-12") {
		if got := impl.ShowTest(e); got != "" {
			t.Errorf("ShowTest(%.40q) = %q", e, got)
		}
	}
}

func TestFoldExpr(t *testing.T) {
	folds := map[string]string{
		"x": "x", "0": "0", "1": "1", "2": "2", "+12": "0", "+11": "2", "+22": "1", "-01": "2", "-12": "2", "-02": "1",
		"-21": "1", "*22": "1", "*20": "0", "-+12x": "-0x", "+x+12": "+x0", "-x-12": "-x2", "+*22-01": "0",
		"--01-02": "1", "+++111x": "+0x", "++xy+12": "++xy0", "*+12+x*22": "*0+x1",
		// What has a variable stays, though its value may be known.
		"*0x": "*0x", "*x0": "*x0", "+0x": "+0x", "+x0": "+x0", "-xx": "-xx", "*1y": "*1y", "-x0": "-x0", "+1+1x": "+1+1x",
		longSum(199): longSum(199),
		strings.Repeat("+", 99) + strings.Repeat("1", 100): "1",
		strings.Repeat("-1", 99) + "0":                     "1",
	}
	for e, want := range folds {
		got, ok := impl.FoldExpr(e)
		wantText(t, "FoldExpr of "+e, got, ok, want, true)
	}
	for _, e := range append(brokenEverywhere(), "t", "=12", "!=12", "&tf") {
		got, ok := impl.FoldExpr(e)
		wantText(t, "FoldExpr of what is no expression", got, ok, "", false)
	}
}

func TestSetVar(t *testing.T) {
	for _, s := range allStates() {
		for n := 0; n < 3; n++ {
			wants := map[string]impl.State{"x": {X: n, Y: s.Y, Z: s.Z}, "y": {X: s.X, Y: n, Z: s.Z}, "z": {X: s.X, Y: s.Y, Z: n}}
			for v, want := range wants {
				if got, ok := impl.SetVar(s, v, n); got != want || !ok {
					t.Errorf("SetVar(%v, %q, %d) = %v, %v", s, v, n, got, ok)
				}
			}
		}
	}
}

func TestSetVarOfInvalidArguments(t *testing.T) {
	check := func(s impl.State, v string, n int) {
		t.Helper()
		if got, ok := impl.SetVar(s, v, n); got != (impl.State{}) || ok {
			t.Errorf("SetVar(%v, %q, %d) = %v, %v", s, v, n, got, ok)
		}
	}
	good := impl.State{X: 1, Y: 2, Z: 1}
	for _, v := range []string{"x", "y", "z"} {
		for _, n := range []int{-1, 3, -3, 4, 256, math.MaxInt, math.MinInt} {
			check(good, v, n)
		}
		// The value that is out of range may be the one that is replaced.
		for _, s := range brokenStates() {
			check(s, v, 1)
		}
	}
	for _, v := range brokenLetters() {
		check(good, v, 1)
	}
}

// Promise 1, its first half.
func TestSubstIsSetVar(t *testing.T) {
	bys := append(shortExprs(), "-+x1y", "*z-0x", "+-yz*2x")
	for _, e := range append(shortExprs(), "+-x*2y*-01+zz", "-x-y-z-12", "*+xx-x*yx") {
		for _, v := range []string{"x", "y", "z"} {
			for _, by := range bys {
				checkSubstExpr(t, e, v, by)
			}
		}
	}
	for _, e := range someTests() {
		for _, v := range []string{"x", "y", "z"} {
			for _, by := range []string{"0", "2", "x", "y", "z", "-0x", "+-yz*2x"} {
				checkSubstTest(t, e, v, by)
			}
		}
	}
}

func checkSubstExpr(t *testing.T, e, v, by string) {
	t.Helper()
	put, ok := impl.SubstExpr(e, v, by)
	if !ok || !impl.ExprValid(put) {
		t.Fatalf("SubstExpr(%q, %q, %q) = %q, %v", e, v, by, put, ok)
	}
	for _, s := range allStates()[3:15] {
		n, _ := impl.EvalExpr(by, s)
		given, _ := impl.SetVar(s, v, n)
		want, _ := impl.EvalExpr(e, given)
		if got, ok := impl.EvalExpr(put, s); got != want || !ok {
			t.Fatalf("%q with %q for %q is %q, and in %v %d instead of %d", e, by, v, put, s, got, want)
		}
	}
}

func checkSubstTest(t *testing.T, e, v, by string) {
	t.Helper()
	put, ok := impl.SubstTest(e, v, by)
	if fits := len(e)+strings.Count(e, v)*(len(by)-1) <= 200; ok != fits || ok && !impl.TestValid(put) {
		t.Fatalf("SubstTest(%q, %q, %q) = %q, %v", e, v, by, put, ok)
	}
	for _, s := range allStates() {
		n, _ := impl.EvalExpr(by, s)
		given, _ := impl.SetVar(s, v, n)
		want, _ := impl.EvalTest(e, given)
		if got, _ := impl.EvalTest(put, s); ok && got != want {
			t.Fatalf("%q with %q for %q is %q, and in %v %v instead of %v", e, by, v, put, s, got, want)
		}
	}
}

// Promise 1, its second half.
func TestFoldChangesNoValue(t *testing.T) {
	for _, e := range someExprs() {
		folded, ok := impl.FoldExpr(e)
		if !ok || !impl.ExprValid(folded) || len(folded) > len(e) {
			t.Fatalf("FoldExpr(%q) = %q, %v", e, folded, ok)
		}
		if again, _ := impl.FoldExpr(folded); again != folded {
			t.Fatalf("FoldExpr(%q) = %q, and of this %q", e, folded, again)
		}
		if vars := impl.ExprVars(e); impl.ExprVars(folded) != vars || vars == "" && len(folded) != 1 {
			t.Fatalf("FoldExpr(%q) = %q has other variables, or more than a digit", e, folded)
		}
		for _, s := range allStates() {
			want, _, _ := modelExpr(e, s)
			if got, ok := impl.EvalExpr(folded, s); got != want || !ok {
				t.Fatalf("FoldExpr(%q) = %q, and in %v %d instead of %d", e, folded, s, got, want)
			}
		}
	}
}
