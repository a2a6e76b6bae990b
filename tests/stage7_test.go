package tests

import (
	"runtime"
	"slices"
	"strconv"
	"strings"
	"testing"

	"loop.example/productprograms/impl"
)

func wantPairResult(t *testing.T, w string, s, to impl.State, want impl.PairResult, wantOK bool) {
	t.Helper()
	if got, ok := impl.RunsPair(w, s, to); got != want || ok != wantOK {
		t.Errorf("RunsPair(%.220q, %v, %v) = %v, %v, want %v, %v", w, s, to, got, ok, want, wantOK)
	}
}

// checkNoWide checks every result that the chapter states for a text that is no
// wide program.
func checkNoWide(t *testing.T, w string) {
	t.Helper()
	if impl.WideProgramValid(w) {
		t.Errorf("WideProgramValid(%.60q) = true", w)
	}
	if got := impl.ShowWide(w); got != "" {
		t.Errorf("ShowWide(%.60q) = %q", w, got)
	}
	got, ok := impl.MirrorWide(w)
	wantText(t, "MirrorWide of what is no wide program", got, ok, "", false)
	wantPairResult(t, w, impl.State{}, impl.State{X: 1}, impl.PairResult{}, false)
	for _, post := range []string{noPairs, everyPair, equalPairs, "", noStates} {
		got, ok = impl.WideFree(w, post)
		wantText(t, "WideFree of what is no wide program", got, ok, "", false)
	}
}

// checkNoProducts checks every result that the chapter states for a text that is
// no program, beside another text.
func checkNoProducts(t *testing.T, bad, other string) {
	t.Helper()
	got, ok := impl.RightOf(bad)
	wantText(t, "RightOf of what is no program", got, ok, "", false)
	if list := impl.StatementsOf(bad); len(list) != 0 {
		t.Errorf("StatementsOf(%.60q) = %q", bad, list)
	}
	for _, both := range [][2]string{{bad, other}, {other, bad}, {bad, bad}} {
		got, ok = impl.SequentialProduct(both[0], both[1])
		wantText(t, "SequentialProduct of what is no program", got, ok, "", false)
		got, ok = impl.LockstepProduct(both[0], both[1])
		wantText(t, "LockstepProduct of what is no program", got, ok, "", false)
		for _, plan := range []string{"", "b", "l", "r", "lr", "rl", "bb", "llr"} {
			got, ok = impl.AlignProduct(both[0], both[1], plan)
			wantText(t, "AlignProduct of what is no program", got, ok, "", false)
		}
	}
}

// textsThatAreNoWidePrograms returns texts that are wrong with the letters of
// both states, too, and those that are too long.
func textsThatAreNoWidePrograms() []string {
	list := []string{
		"X", "aX", "aXs", "aX1s", "aX1 ", " aX1", "a X1", "aW1", "aV1", "aXW", "aX\u0178", "a\u01781", "a11", "aXt", "aX=xX", "AX1", "aXX1", "aX+X", "xX", "aXa",
		"S", ";SS", ";aX1", ";aX1aY1aZ1", "?XaX1s", "?TaX1s", "?=xXaX1", "?=xXsss", "@XaX1", "@FaX1", "@=xX", "@=xXss", "/aX1", "/aX1sX", "~X", "~T", "~=X", "~=xXs", "~=xXX", "~E",
		"=xX", "t", "+xX", "P", "E", "V", "Vs", "p", "aX1\x00", "aX1\xff", "aX3", "aXx x", "~=xX\n",
		noStates, noPairs, strings.Repeat("aX1", 300), strings.Repeat("X", 1<<20), strings.Repeat(";", 1<<20), strings.Repeat("@=xX", 1<<18),
		"aX" + longSum(999), "~" + strings.Repeat("!", 999) + "t", "~" + strings.Repeat("!", 997) + "=xX", strings.Repeat("/s", 500) + "s", strings.Repeat("@t", 500) + "s", strings.Repeat(";", 500) + strings.Repeat("s", 501),
		strings.Repeat("?ts", 333) + "~t", "@=X" + longSum(997) + "s", "~" + strings.Repeat("!", 5000) + "t",
	}
	for _, w := range fullWidePrograms() {
		list = append(list, w+"s", w+" ", " "+w, ";"+w, ";s"+w, "@t"+w, w[:999], w[1:])
		// A test that is not what it was is one byte longer.
		if i := strings.LastIndexAny(w, "tf=<"); i >= 0 {
			list = append(list, w[:i]+"!"+w[i:])
		}
	}
	for _, p := range brokenPrograms() {
		// Some are broken only in that they have letters of the second state.
		if !modelWideProgram(p) {
			list = append(list, p)
		}
	}
	return list
}

func TestWideProgramsAgainstTheModel(t *testing.T) {
	t.Parallel()
	for _, w := range widePrograms() {
		if !modelWideProgram(w) {
			t.Fatalf("%q should be a wide program", w)
		}
		checkForms(t, w)
	}
}

// checkForms compares the texts of a wide program with the model.
func checkForms(t *testing.T, w string) {
	t.Helper()
	if !impl.WideProgramValid(w) {
		t.Fatalf("WideProgramValid(%q) = false", w)
	}
	if got, want := impl.ShowWide(w), shownWide(wideTree(w)); got != want {
		t.Errorf("ShowWide(%q) = %q, want %q", w, got, want)
	}
	once, ok := impl.MirrorWide(w)
	wantText(t, "MirrorWide of "+w, once, ok, modelMirror(w), true)
	twice, ok := impl.MirrorWide(once)
	wantText(t, "MirrorWide twice of "+w, twice, ok, w, true)
}

// All texts of up to five letters of wide programs are told from all others.
func TestShortWidePrograms(t *testing.T) {
	t.Parallel()
	signs := strings.Split("saxX1t;?@/~", "")
	texts := []string{""}
	valid := 0
	for from, length := 0, 1; length <= 5; length++ {
		to := len(texts)
		for _, before := range texts[from:to] {
			for _, sign := range signs {
				texts = append(texts, before+sign)
			}
		}
		from = to
	}
	for _, w := range texts {
		want := modelWideProgram(w)
		if got := impl.WideProgramValid(w); got != want {
			t.Errorf("WideProgramValid(%q) = %v", w, got)
		}
		if want {
			valid++
		}
	}
	if valid < 60 {
		t.Errorf("only %d texts are valid", valid)
	}
}

func TestWideProgramsOfWhatIsNone(t *testing.T) {
	t.Parallel()
	for _, w := range textsThatAreNoWidePrograms() {
		if modelWideProgram(w) {
			t.Errorf("%q should be no wide program", w)
		}
		checkNoWide(t, w)
	}
	for _, bad := range brokenStates() {
		for _, w := range []string{"s", "axX", "~f", "@ts", "x"} {
			wantPairResult(t, w, bad, impl.State{}, impl.PairResult{}, false)
			wantPairResult(t, w, impl.State{Y: 1}, bad, impl.PairResult{}, false)
			wantPairResult(t, w, bad, bad, impl.PairResult{}, false)
		}
	}
	for _, bad := range brokenRels() {
		for _, w := range []string{"s", "axX", "~f", "@ts", ";ax+x1aX+X1"} {
			got, ok := impl.WideFree(w, bad)
			wantText(t, "WideFree of what is no relation", got, ok, "", false)
		}
	}
}

func TestWideProgramsOfExactlyTheLimit(t *testing.T) {
	t.Parallel()
	states := allStates()
	for n, w := range fullWidePrograms() {
		if len(w) != 1000 || !modelWideProgram(w) {
			t.Fatalf("%q of %d bytes should be a wide program of 1000", w, len(w))
		}
		checkForms(t, w)
		for k := range 4 {
			s, to := states[(7*n+5*k)%27], states[(11*n+20*k)%27]
			wantPairResult(t, w, s, to, runsPairModel(w, s, to), true)
			wantPairResult(t, w, s, s, runsPairModel(w, s, s), true)
		}
		checkFree(t, w, equalPairs, 6)
	}
	// A statement a has an odd number of bytes.
	w := "aX" + longSum(997)
	checkForms(t, w)
	wantPairResult(t, w, states[3], states[4], runsPairModel(w, states[3], states[4]), true)
}

// checkFree compares WideFree with the final pairs that the model tells from
// some pairs.
func checkFree(t *testing.T, w, post string, some int) {
	t.Helper()
	free, ok := impl.WideFree(w, post)
	if !ok || !impl.RelValid(free) {
		t.Fatalf("WideFree(%q, %q) = %q, %v", w, post, free, ok)
	}
	m, tree := newWideModel(), wideTree(w)
	for k := range some {
		at := allPairs()[(len(w)*13+k*122)%729]
		if is := impl.RelWithin(m.from(tree, at).relation(), post); is != impl.HasPair(free, at.s, at.t) {
			t.Errorf("the pair %v is in WideFree of %q and %q: %v", at, w, post, !is)
		}
	}
}

func TestShowWide(t *testing.T) {
	cases := []struct{ w, shown string }{
		{"s", "skip"}, {"axX", "x:=X"}, {"aX+X1", "X:=(X+1)"}, {"az*Z-yY", "z:=(Z*(y-Y))"}, {"ax1", "x:=1"}, {"aY0", "Y:=0"}, {"~=xX", "assume x=X"}, {"~!&<xY=Z2", "assume !((x<Y&Z=2))"}, {"~t", "assume true"},
		{";axXaXx", "x:=X; X:=x"}, {"?=xYsaZ0", "if x=Y {skip} else {Z:=0}"}, {"@<xXaX+X1", "while x<X {X:=(X+1)}"}, {"/aXxs", "either {X:=x} or {skip}"},
		{"@|<x2<X2?<x2?<X2;ax+x1aX+X1ax+x1aX+X1", "while (x<2|X<2) {if x<2 {if X<2 {x:=(x+1); X:=(X+1)} else {x:=(x+1)}} else {X:=(X+1)}}"},
		{"", ""}, {"q", ""}, {"aW1", ""}, {"X", ""}, {"=xX", ""},
	}
	for _, c := range cases {
		if got := impl.ShowWide(c.w); got != c.shown {
			t.Errorf("ShowWide(%q) = %q, want %q", c.w, got, c.shown)
		}
	}
	for _, p := range append(somePrograms(), fullPrograms()...) {
		if got, want := impl.ShowWide(p), impl.ShowProgram(p); got != want {
			t.Errorf("ShowWide(%q) = %q, want %q", p, got, want)
		}
	}
}

func TestRightOf(t *testing.T) {
	cases := []struct{ p, want string }{
		{"s", "s"}, {"ax1", "aX1"}, {"ay+xz", "aY+XZ"}, {"~=xy", "~=XY"}, {"~t", "~t"}, {"@<x2ax+x1", "@<X2aX+X1"}, {"?=xysaz0", "?=XYsaZ0"}, {";/axysazx", ";/aXYsaZX"}, {"@&t!fs", "@&t!fs"},
	}
	for _, c := range cases {
		got, ok := impl.RightOf(c.p)
		wantText(t, "RightOf of "+c.p, got, ok, c.want, true)
	}
	for _, p := range append(somePrograms(), fullPrograms()...) {
		got, ok := impl.RightOf(p)
		wantText(t, "RightOf of "+p, got, ok, raised(p), true)
	}
	// Wide programs with letters of the second state, and longer ones, are no
	// programs.
	longer := []string{"ax" + longSum(199), strings.Repeat("/s", 100) + "s", strings.Repeat("@t", 100) + "s", "~" + strings.Repeat("!", 199) + "t"}
	for _, w := range append(longer, "aX1", "axX", "~=xX", "@<X2s", ";ax1aX1", "?=xYsaz0", "/saZ0", fullWidePrograms()[0]) {
		if !impl.WideProgramValid(w) {
			t.Errorf("WideProgramValid(%q) = false", w)
		}
		checkNoProducts(t, w, "s")
	}
}

func TestProductsOfWhatIsNoProgram(t *testing.T) {
	t.Parallel()
	for _, bad := range textsThatAreNoPrograms() {
		checkNoProducts(t, bad, "ax1")
	}
	for _, bad := range []string{"", "ss", "X", ";s"} {
		checkNoProducts(t, bad, "?=x0s@ts")
		checkNoProducts(t, bad, ";sax1")
		checkNoProducts(t, bad, "@<x2ax+x1")
	}
}

func TestMirrorWide(t *testing.T) {
	cases := []struct{ w, want string }{
		{"s", "s"}, {"axX", "aXx"}, {";axYaZz", ";aXyazZ"}, {"ax+y1", "aX+Y1"}, {"~<X2", "~<x2"}, {"@<xXaX+X1", "@<Xxax+x1"}, {"?=+xYZ/aztaX0", ""}, {"?=+xYZaz0aX0", "?=+XyzaZ0ax0"}, {"aW1", ""}, {"", ""},
	}
	for _, c := range cases {
		got, ok := impl.MirrorWide(c.w)
		wantText(t, "MirrorWide of "+c.w, got, ok, c.want, c.want != "")
	}
}

func TestRunsPair(t *testing.T) {
	cases := []struct {
		w, from, to   string
		finals        string
		loops, blocks bool
	}{
		{"s", "012", "210", "012 210", false, false}, {"axX", "012", "210", "212 210", false, false}, {"aXx", "012", "210", "012 010", false, false}, {"aZ+yY", "012", "210", "012 212", false, false},
		{";axYaX1", "100", "020", "200 120", false, false}, {";axXaXx", "000", "100", "100 100", false, false}, {"?=xXsaX+X1", "000", "100", "000 200", false, false}, {"?=xXsaX+X1", "100", "100", "100 100", false, false},
		{"~=xX", "100", "020", "", false, true}, {"~=xX", "100", "120", "100 120", false, false}, {"~f", "000", "000", "", false, true}, {"@ts", "000", "000", "", true, false}, {"@fs", "001", "100", "001 100", false, false},
		{"@<xXaX+X1", "000", "100", "000 000", false, false}, {"@<xXaX+X1", "100", "200", "100 000", false, false}, {"@=xX/sax+x1", "100", "100", "200 100", true, false}, {"@=xX~f", "100", "100", "", false, true},
		{"/axXaXx", "100", "200", "100 100, 200 200", false, false}, {"/~faXx", "100", "200", "100 100", false, true}, {"/@tsaXx", "100", "200", "100 100", true, false}, {"/@ts~f", "100", "200", "", true, true},
		{";~f@ts", "000", "000", "", false, true}, {";@ts~f", "000", "000", "", true, false}, {"@!=xX/ax+x1aX+X1", "000", "100", "000 000, 100 100, 200 200", true, false}, {";/ax0/ax1ax2/aX0aX1", "012", "012", "012 012, 012 112, 112 012, 112 112, 212 012, 212 112", false, false},
	}
	for _, c := range cases {
		want := noPairs
		for _, final := range strings.Split(c.finals, ", ") {
			if final != "" {
				at := modelPair{stateOf(final[:3]), stateOf(final[4:])}
				want = otherwise(want, at.index())
			}
		}
		wantPairResult(t, c.w, stateOf(c.from), stateOf(c.to), impl.PairResult{Finals: want, Loops: c.loops, Blocks: c.blocks}, true)
	}
}

func TestRunsPairAgainstTheModel(t *testing.T) {
	t.Parallel()
	pairs := allPairs()
	loops, blocks := 0, 0
	for n, w := range widePrograms() {
		m, tree := newWideModel(), wideTree(w)
		for k := range 9 {
			at := pairs[(n*37+k*250)%729]
			o := m.from(tree, at)
			wantPairResult(t, w, at.s, at.t, impl.PairResult{Finals: o.relation(), Loops: o.loops, Blocks: o.blocks}, true)
			if o.loops {
				loops++
			}
			if o.blocks {
				blocks++
			}
		}
	}
	if loops < 500 || blocks < 500 {
		t.Errorf("only %d results loop and %d block", loops, blocks)
	}
	for _, w := range fewWidePrograms(3, 199) {
		m, tree := newWideModel(), wideTree(w)
		for _, at := range pairs {
			o := m.from(tree, at)
			wantPairResult(t, w, at.s, at.t, impl.PairResult{Finals: o.relation(), Loops: o.loops, Blocks: o.blocks}, true)
		}
	}
}

// A loop through all pairs of states needs as many turns as there are pairs.
func TestWideProgramsThatCount(t *testing.T) {
	counting := "?<x2ax+x1;ax0?<y2ay+y1;ay0?<z2az+z1;az0?<X2aX+X1;aX0?<Y2aY+Y1;aY0?<Z2aZ+Z1~f"
	last := impl.State{X: 2, Y: 2, Z: 2}
	all := "@!&&=x2&=y2=z2&=X2&=Y2=Z2" + counting
	end := impl.PairResult{Finals: otherwise(noPairs, 728)}
	wantPairResult(t, all, impl.State{}, impl.State{}, end, true)
	wantPairResult(t, all, last, last, end, true)
	wantPairResult(t, "@t"+counting, impl.State{}, impl.State{}, impl.PairResult{Finals: noPairs, Blocks: true}, true)
	wantPairResult(t, "@t"+strings.Replace(counting, "~f", "aZ0", 1), impl.State{}, impl.State{}, impl.PairResult{Finals: noPairs, Loops: true}, true)
	// Any turn may be the last one.
	anyTurn := "@!=xX;" + strings.Replace(counting, "~f", "aZ0", 1) + "/sax+x1"
	wantPairResult(t, anyTurn, impl.State{}, impl.State{X: 1}, runsPairModel(anyTurn, impl.State{}, impl.State{X: 1}), true)
	for _, post := range []string{noPairs, everyPair, end.Finals, modelNot(end.Finals)} {
		got, ok := impl.WideFree(all, post)
		want := everyPair
		if post[728] == '0' {
			want = noPairs
		}
		wantText(t, "WideFree of "+all, got, ok, want, true)
	}
}

// A program is a wide one that leaves the second state as it is, and RightOf of
// it leaves the first one.
func TestProgramsOfOneStateAlone(t *testing.T) {
	t.Parallel()
	states := allStates()
	for n, p := range append(programsToRun(), someLoops()...) {
		s, to := states[n%27], states[(n*5+n/27)%27]
		may, _ := impl.RunsFrom(p, s)
		finals := modelRel(func(i, j int) bool { return may.Finals[i] == '1' && j == numberOf(to) })
		want := impl.PairResult{Finals: finals, Loops: may.Loops, Blocks: may.Blocks}
		wantPairResult(t, p, s, to, want, true)
		right, _ := impl.RightOf(p)
		want.Finals = modelTurn(finals)
		wantPairResult(t, right, to, s, want, true)
	}
}

// The mirrored program does the same to turned pairs.
func TestMirroredRuns(t *testing.T) {
	t.Parallel()
	pairs := allPairs()
	for n, w := range widePrograms() {
		mirrored, _ := impl.MirrorWide(w)
		for k := range 3 {
			at := pairs[(n*29+k*301)%729]
			want, _ := impl.RunsPair(w, at.s, at.t)
			want.Finals = modelTurn(want.Finals)
			wantPairResult(t, mirrored, at.t, at.s, want, true)
		}
	}
}

func TestSequentialProduct(t *testing.T) {
	cases := []struct{ p, q, want string }{
		{"ax1", "ay+x1", ";ax1aY+X1"}, {"s", "s", ";ss"}, {";ss", ";ss", ";;ss;ss"}, {"?=x1sax1", "@<y2ay+y1", ";?=x1sax1@<Y2aY+Y1"}, {"~=xy", "~=xy", ";~=xy~=XY"}, {"/ax1s", "az*xy", ";/ax1saZ*XY"},
	}
	for _, c := range cases {
		got, ok := impl.SequentialProduct(c.p, c.q)
		wantText(t, "SequentialProduct of "+c.p+" and "+c.q, got, ok, c.want, true)
	}
	full := fullPrograms()
	for n, p := range full {
		q := full[(n+5)%len(full)]
		got, ok := impl.SequentialProduct(p, q)
		wantText(t, "SequentialProduct of "+p+" and "+q, got, ok, ";"+p+raised(q), true)
		if len(got) != 401 || !impl.WideProgramValid(got) {
			t.Errorf("the product of %q and %q has %d bytes", p, q, len(got))
		}
	}
}

func TestLockstepOfEveryTwoKinds(t *testing.T) {
	cases := []struct{ p, q, want string }{
		{";ax1ay2", ";ax2s", ";;ax1aX2;ay2s"},
		{";;ax1ay2s", ";;ax2saz0", ";;;ax1aX2;ay2s;saZ0"},
		{";;ax1ay2s", ";ax2;saz0", ";;;ax1ay2aX2;s;saZ0"},
		{";@<x2ax+x1s", ";@=y0ay1ay2", ";@|<x2=Y0?<x2?=Y0;ax+x1aY1ax+x1aY1;saY2"},
		{"?=x1sax1", "?=y1ay0s", "?=x1?=Y1;saY0;ss?=Y1;ax1aY0;ax1s"},
		{"?=x1?=y1saz0ax1", "?<z1ay0s", "?=x1?<Z1;?=y1saz0aY0;?=y1saz0s?<Z1;ax1aY0;ax1s"},
		{"?=x1?=y1saz0ax1", "?<z1?tsay2s", "?=x1?<Z1?=y1?t;ss;saY2?t;az0s;az0aY2;?=y1saz0s?<Z1;ax1?tsaY2;ax1s"},
		{"?t;ax1ay1;ay1ax1", "?f;ssax0", "?t?f;;ax1s;ay1s;;ax1ay1aX0?f;;ay1s;ax1s;;ay1ax1aX0"},
		{"@<x2ax+x1", "@<x2ax+x1", "@|<x2<X2?<x2?<X2;ax+x1aX+X1ax+x1aX+X1"},
		{"@<x2;ax+x1s", "@!=yz;say0", "@|<x2!=YZ?<x2?!=YZ;;ax+x1s;saY0;ax+x1s;saY0"},
		{"@t@fax1", "@f@tay1", "@|tf?t?f@|ft?f?t;ax1aY1ax1aY1@fax1@taY1"},
		{"@=x0?=y0sax1", "@=y0?=z0ay1s", "@|=x0=Y0?=x0?=Y0?=y0?=Z0;saY1;ss?=Z0;ax1aY1;ax1s?=y0sax1?=Z0aY1s"},
		{"ax1", ";ss", ";ax1;ss"}, {"~t", "~f", ";~t~f"}, {"/ax1s", "/ay1s", ";/ax1s/aY1s"}, {"s", "s", ";ss"}, {"ax1", "ax1", ";ax1aX1"}, {";ss", "?tss", ";;ss?tss"}, {"?tss", "@ts", ";?tss@ts"}, {"@ts", ";ss", ";@ts;ss"},
	}
	for _, c := range cases {
		got, ok := impl.LockstepProduct(c.p, c.q)
		wantText(t, "LockstepProduct of "+c.p+" and "+c.q, got, ok, c.want, true)
	}
	// Statements of different kinds, and of the other kinds, are in sequence.
	kinds := []string{"s", "ax+y1", ";ax1az+z2", "?<xysay0", "@<xyax+x1", "/sax2", "~=xz"}
	for i, p := range kinds {
		for j, q := range kinds {
			got, ok := impl.LockstepProduct(p, q)
			wantText(t, "LockstepProduct of "+p+" and "+q, got, ok, modelLockstep(p, q), true)
			if both := p[:1] + q[:1]; (got == ";"+p+raised(q)) != (both != ";;" && both != "??" && both != "@@") {
				t.Errorf("LockstepProduct of kinds %d and %d is %q", i, j, got)
			}
		}
	}
}

func TestLockstepAgainstTheModel(t *testing.T) {
	t.Parallel()
	programs := append(somePrograms(), movingPrograms()...)
	for n, p := range programs {
		for k := range 6 {
			checkLockstep(t, p, programs[(n*(k+1)+31*k)%len(programs)])
		}
	}
	tooLong := 0
	for _, p := range deepPrograms() {
		for _, q := range deepPrograms() {
			if !checkLockstep(t, p, q) {
				tooLong++
			}
		}
	}
	if tooLong < 100 {
		t.Errorf("only %d products are too long", tooLong)
	}
}

// checkLockstep compares a product with the model, and reports whether it is
// short enough.
func checkLockstep(t *testing.T, p, q string) bool {
	t.Helper()
	want, wantOK := fits(modelLockstep(p, q), true)
	got, ok := impl.LockstepProduct(p, q)
	wantText(t, "LockstepProduct of "+p+" and "+q, got, ok, want, wantOK)
	if ok && !impl.WideProgramValid(got) {
		t.Errorf("the product %q is no wide program", got)
	}
	return ok
}

// deepPrograms returns programs of loops, ifs and sequences within each other.
func deepPrograms() []string {
	list := fullPrograms()
	for depth := 2; depth <= 32; depth += 5 {
		list = append(list, nestedLoops(depth, "<xy", "ax+x1"), strings.Repeat("?<xys", depth)+"ax1", strings.Repeat("?=xy", depth)+strings.Repeat("s", depth+1), strings.Repeat("@=x0?t", depth/2)+strings.Repeat("s", depth/2+1))
		list = append(list, strings.Repeat(";@=x0s", depth)+"ay1", strings.Repeat(";", depth)+strings.Repeat("?tss", depth+1))
	}
	return list
}

// nestedLoops returns a program of loops within each other around a statement.
func nestedLoops(depth int, test, within string) string {
	return strings.Repeat("@"+test, depth) + within
}

// longPairs returns pairs of programs by the length of their lockstep product:
// loops within loops, and ifs within ifs.
func longPairs() map[int][][2]string {
	list := map[int][][2]string{}
	add := func(p, q string) {
		if length := len(modelLockstep(p, q)); len(p) <= 190 && len(q) <= 190 && length > 980 && length < 1010 {
			list[length] = append(list[length], [2]string{p, q})
		}
	}
	for within := 20; within <= 170; within++ {
		for n, last := range []string{"s", "~t", "ay0", "~=yz", "ay+y1", "~!=yz", ";say1"} {
			p := "@" + strings.Repeat("!", n) + "f" + nestedLoops(5, "t", programOf(within))
			q := nestedLoops(6, "=yz", last)
			add(p, q)
			add(q, p)
		}
		for ifs := 3; ifs <= 5; ifs++ {
			p := strings.Repeat("?=xys", ifs) + programOf(within)
			q := strings.Repeat("?tay+x1", ifs) + "~=yz"
			add(p, q)
			add(q, p)
		}
	}
	return list
}

func TestProductsOfExactlyTheLimit(t *testing.T) {
	t.Parallel()
	list := longPairs()
	for length := 990; length <= 1009; length++ {
		if len(list[length]) < 2 {
			t.Errorf("there are only %d products of %d bytes", len(list[length]), length)
		}
		for n, both := range list[length] {
			p, q := both[0], both[1]
			want, wantOK := fits(modelLockstep(p, q), true)
			got, ok := impl.LockstepProduct(p, q)
			wantText(t, "LockstepProduct of "+strconv.Itoa(length)+" bytes", got, ok, want, wantOK)
			if s := allStates()[n%27]; ok {
				checkForms(t, got)
				wantEnds(t, got, p, q, s, impl.State{X: 1}, endsOf(p, q, s, impl.State{X: 1}))
			}
			got, ok = impl.AlignProduct(p, q, "b")
			wantText(t, "AlignProduct of "+strconv.Itoa(length)+" bytes", got, ok, want, wantOK)
			got, ok = impl.AlignProduct(p, q, "rl")
			wantText(t, "AlignProduct of programs of a long product", got, ok, ";"+raised(q)+p, true)
		}
	}
}

// The limit is asked of the whole product of a plan.
func TestPlansOfExactlyTheLimit(t *testing.T) {
	t.Parallel()
	found := map[int]int{}
	for _, pairs := range longPairs() {
		for n, both := range pairs {
			p, q := ";"+both[0]+"~t", ";;s"+both[1]+"ax1"
			plan := []string{"rbrl", "rbb", "rblr"}[n%3]
			text, _ := modelAlign(p, q, plan)
			found[len(text)]++
			want, wantOK := fits(text, true)
			got, ok := impl.AlignProduct(p, q, plan)
			wantText(t, "AlignProduct by "+plan+" of "+strconv.Itoa(len(text))+" bytes", got, ok, want, wantOK)
		}
	}
	for length := 998; length <= 1003; length++ {
		if found[length] == 0 {
			t.Errorf("no plan has a product of %d bytes", length)
		}
	}
}

func TestStatementsOf(t *testing.T) {
	cases := []struct {
		p    string
		want []string
	}{
		{"s", []string{"s"}}, {"ax1", []string{"ax1"}}, {";ss", []string{"s", "s"}}, {";;sax1;ay1@ts", []string{"s", "ax1", "ay1", "@ts"}},
		// Leaning to either side.
		{";;;sax1ay1az1", []string{"s", "ax1", "ay1", "az1"}}, {";s;ax1;ay1az1", []string{"s", "ax1", "ay1", "az1"}}, {";;s;ax1ay1az1", []string{"s", "ax1", "ay1", "az1"}}, {";s;;ax1ay1az1", []string{"s", "ax1", "ay1", "az1"}},
		// What is within other statements is no part of the sequence.
		{"?t;ssax1", []string{"?t;ssax1"}}, {"@t;ss", []string{"@t;ss"}}, {"/;ss;ss", []string{"/;ss;ss"}}, {";@t;ss/;sss", []string{"@t;ss", "/;sss"}}, {";?=x0;ss;ss~t", []string{"?=x0;ss;ss", "~t"}},
	}
	for _, c := range cases {
		if got := impl.StatementsOf(c.p); !slices.Equal(got, c.want) {
			t.Errorf("StatementsOf(%q) = %q, want %q", c.p, got, c.want)
		}
	}
	for _, p := range append(somePrograms(), fullPrograms()...) {
		want := modelStatements(p)
		got := impl.StatementsOf(p)
		if !slices.Equal(got, want) {
			t.Errorf("StatementsOf(%q) = %q, want %q", p, got, want)
		}
		// A result is new each time.
		got[0] = "changed"
		if again := impl.StatementsOf(p); !slices.Equal(again, want) {
			t.Errorf("StatementsOf(%q) = %q, want %q", p, again, want)
		}
	}
}

func TestAlignProduct(t *testing.T) {
	cases := []struct{ p, q, plan, want string }{
		{";ax1ay1", ";ax2s", "blr", ";;ax1aX2;ay1s"}, {";ax1ay1", ";ax2s", "bb", ";;ax1aX2;ay1s"}, {";ax1ay1", ";ax2s", "llrr", ";ax1;ay1;aX2s"}, {";ax1ay1", ";ax2s", "rrll", ";aX2;s;ax1ay1"}, {";ax1ay1", ";ax2s", "rbl", ";aX2;;ax1say1"}, {";ax1ay1", ";ax2s", "lbr", ";ax1;;ay1aX2s"}, {";ax1ay1", ";ax2s", "lrb", ";ax1;aX2;ay1s"},
		{"ax1", "ax2", "b", ";ax1aX2"}, {"ax1", "ax2", "lr", ";ax1aX2"}, {"ax1", "ax2", "rl", ";aX2ax1"}, {"@<x2ax+x1", "@<x2ax+x1", "b", "@|<x2<X2?<x2?<X2;ax+x1aX+X1ax+x1aX+X1"}, {"@<x2ax+x1", "@<x2ax+x1", "rl", ";@<X2aX+X1@<x2ax+x1"},
		{";;sax1ay1", "?=x1ss", "lbl", ";s;;ax1?=X1ssay1"}, {";s;ax1?=y1saz1", "?=x1ss", "llb", ";s;ax1?=y1?=X1;ss;ss?=X1;az1s;az1s"}, {"?tss", ";;sax1ay1", "rrrl", ";s;aX1;aY1?tss"},
	}
	for _, c := range cases {
		got, ok := impl.AlignProduct(c.p, c.q, c.plan)
		wantText(t, "AlignProduct of "+c.p+", "+c.q+" by "+c.plan, got, ok, c.want, true)
	}
}

// Whether a plan fits or not, nothing goes on after the call.
func TestPlansLeaveNothingBehind(t *testing.T) {
	before := runtime.NumGoroutine()
	for n := range 200 {
		plan := []string{"bb", "blr", "llrr", "b", "lll", "bbb", "rlx", ""}[n%8]
		if _, ok := impl.AlignProduct(";ax1@<y2ay+y1", ";ax2@<y2ay+y1", plan); ok != (n%8 < 3) {
			t.Errorf("AlignProduct by %q = %v", plan, ok)
		}
	}
	if after := runtime.NumGoroutine(); after > before+20 {
		t.Errorf("there were %d goroutines, and are %d", before, after)
	}
}

// Plans that are empty, have another byte, need a statement that is not there,
// or leave one.
func TestPlansThatDoNotFit(t *testing.T) {
	bad := []string{
		"", " ", "b", "l", "r", "lr", "rl", "bl", "br", "lb", "rb", "llr", "lrr", "rrl", "ll", "rr", "lll", "rrr",
		"bbb", "bbl", "bbr", "lbb", "rbb", "bblr", "blrl", "blrr", "blrb", "llrrl", "llrrr", "llrrb", "lllrr", "llrrrr", "blb", "brb", "lrbb", "lrlrlr",
		"B", "BB", "LR", "bB", "Bb", "blR", "bLr", "bxl", "bx", "xbb", "bxb", "bbx", "blrx", "xblr", "bb ", " bb", "b b", "bb\n", "b\x00b", "bb\x00", "bb\xff", "llrr\xff", "01", "0", "blr0", "b,b", "bé", "\u0162b", "bbé",
		strings.Repeat("b", 1<<20), strings.Repeat("l", 1<<20) + strings.Repeat("r", 1<<20), strings.Repeat("x", 1<<20),
	}
	for _, both := range [][2]string{{";ax1ay1", ";ax2s"}, {";@<x2ax+x1ay1", ";@<x2ax+x1?tss"}} {
		for _, plan := range bad {
			got, ok := impl.AlignProduct(both[0], both[1], plan)
			wantText(t, "AlignProduct by a plan that does not fit", got, ok, "", false)
		}
	}
	for _, plan := range allPlans(2, 2) {
		for _, both := range [][2]string{{"ax1", ";ax2s"}, {";ax1ay1", "s"}, {";;ax1ay1s", ";ss"}, {";ss", ";;sss"}, {";s;sax1", ";sax1"}, {"s", "s"}, {"@t;ss", "/ss"}} {
			got, ok := impl.AlignProduct(both[0], both[1], plan)
			wantText(t, "AlignProduct by the plan "+plan, got, ok, "", false)
		}
	}
}

func TestAlignProductAgainstTheModel(t *testing.T) {
	t.Parallel()
	// All texts of the bytes of plans, and of another one.
	plans := []string{""}
	for i := 0; len(plans[i]) < 6; i++ {
		for _, step := range []string{"l", "r", "b", "q"} {
			plans = append(plans, plans[i]+step)
		}
	}
	for _, both := range [][2]string{{"ax1", "@<x2ax+x1"}, {";ax1@<y2ay+y1", ";ax2@<y2ay+y1"}, {";;s?=x0sax0;ay1az1", ";az1?=y0ay1s"}, {"?tss", ";s;ax1;ay1s"}} {
		for _, plan := range plans {
			want, wantOK := fits(modelAlign(both[0], both[1], plan))
			got, ok := impl.AlignProduct(both[0], both[1], plan)
			wantText(t, "AlignProduct of "+both[0]+", "+both[1]+" by "+plan, got, ok, want, wantOK)
		}
	}
	programs := append(somePrograms(), movingPrograms()...)
	programs = append(programs, fullPrograms()...)
	seed := uint32(77)
	for n, p := range programs {
		for k := range 3 {
			q := programs[(n*(k+2)+17*k)%len(programs)]
			plan := onePlan(&seed, len(modelStatements(p)), len(modelStatements(q)))
			for _, plan := range []string{plan, plan[1:], plan + "l", plan + "b"} {
				want, wantOK := fits(modelAlign(p, q, plan))
				got, ok := impl.AlignProduct(p, q, plan)
				wantText(t, "AlignProduct of "+p+", "+q+" by "+plan, got, ok, want, wantOK)
			}
		}
	}
}

func TestWideFree(t *testing.T) {
	cases := []struct{ w, post, want string }{
		{"s", "=xY", "=xY"}, {"axX", "=xX", "t"}, {"axX", "=x1", "=X1"}, {"aXx", "=X1", "=x1"}, {"aX+X1", "=xX", "=x+X1"}, {";ax+x1aX+X1", "=xX", "=xX"}, {";ax+x1aX+X1", "=x1", "=x0"}, {";axYaXy", "=xX", "=yY"},
		{"~=xX", "f", "!=xX"}, {"~=xX", "=yY", "|!=xX=yY"}, {"~=xX", "t", "t"}, {"~f", "f", "t"}, {"~t", "f", "f"}, {"?<xX~f@ts", "f", "t"}, {"@ts", "f", "t"}, {"@ts", "=xX", "t"}, {"@=xXs", "f", "=xX"}, {"@=xX~f", "f", "=xX"},
		{"?=xXs~f", "=y1", "|!=xX=y1"}, {"/ax0ax1", "=xX", "f"}, {"/axXaXx", "=xX", "t"}, {"/sax+x1", "<xX", "&=x0=X2"}, {"/s~f", "=xX", "=xX"}, {"/s@ts", "=xX", "=xX"}, {"@<xXaX+X1", "=X0", "|<xX=X0"}, {"@<xXax+x1", "=xX", "!<Xx"},
		{"@!=xX/ax+x1aX+X1", "=xX", "t"}, {"@!=xX/ax+x1aX+X1", "=x1", "&=xX=x1"}, {"@!=xX/ax+x1aX+X1", "f", "f"}, {"@|<x2<X2?<x2?<X2;ax+x1aX+X1ax+x1aX+X1", "&=x2=X2", "t"}, {"@|<x2<X2?<x2?<X2;ax+x1aX+X1ax+x1aX+X1", "!=x2", "f"},
	}
	for _, c := range cases {
		got, ok := impl.WideFree(c.w, modelRelOf(c.post))
		wantText(t, "WideFree of "+c.w+" and "+c.post, got, ok, modelRelOf(c.want), true)
	}
	same := modelRelOf("&=xX&=yY=zZ")
	got, ok := impl.WideFree(";;axXayYazZ", same)
	wantText(t, "WideFree of copies", got, ok, everyPair, true)
}

func TestWideFreeAgainstTheModel(t *testing.T) {
	t.Parallel()
	rels := someRels()
	for n, w := range fewWidePrograms(1, 12) {
		free := freeModel(w)
		// The empty relation, that of all pairs, and others.
		posts := append(turned(rels, 5*n, 6), noPairs, everyPair, equalPairs)
		for _, post := range posts {
			got, ok := impl.WideFree(w, post)
			wantText(t, "WideFree of "+w+" and "+post, got, ok, free(post), true)
		}
	}
	// Wide programs without final pairs, from some pairs or from all.
	for _, w := range []string{"~f", "@ts", ";~faX1", ";aX1@t/sax+x1", "/~f@ts", "~=xX", "?=xX~f@ts"} {
		free := freeModel(w)
		for _, post := range rels {
			got, ok := impl.WideFree(w, post)
			wantText(t, "WideFree of "+w+" and "+post, got, ok, free(post), true)
		}
	}
}

// WideFree is what RunsPair tells, and that of a sequence is composed.
func TestWideFreeIsWhatRunsTell(t *testing.T) {
	t.Parallel()
	pairs, rels := allPairs(), someRels()
	programs := fewWidePrograms(2, 4)
	for n, w := range programs {
		post := rels[n%len(rels)]
		free, _ := impl.WideFree(w, post)
		for k := range 6 {
			at := pairs[(n*13+k*122)%729]
			r, _ := impl.RunsPair(w, at.s, at.t)
			if impl.HasPair(free, at.s, at.t) != impl.RelWithin(r.Finals, post) {
				t.Errorf("WideFree of %q and %q is %q, and not what RunsPair tells of %v", w, post, free, at)
			}
		}
		other := programs[(n*7+3)%len(programs)]
		want, _ := impl.WideFree(other, free)
		got, ok := impl.WideFree(";"+other+w, post)
		wantText(t, "WideFree of "+other+" and then "+w, got, ok, want, true)
	}
}

// wantEnds checks that a product ends exactly in the pairs of final states.
func wantEnds(t *testing.T, product, p, q string, s, to impl.State, ends string) {
	t.Helper()
	if r, ok := impl.RunsPair(product, s, to); r.Finals != ends || !ok {
		t.Errorf("the product %q of %q and %q ends from %v and %v in %q, %v, want %q", product, p, q, s, to, r.Finals, ok, ends)
	}
}

// productsOf returns the products of two programs: in sequence, in lockstep, by
// all plans or by some of many ones.
func productsOf(t *testing.T, seed *uint32, p, q string) []string {
	t.Helper()
	sequential, ok := impl.SequentialProduct(p, q)
	if !ok {
		t.Fatalf("SequentialProduct(%q, %q) = %q, %v", p, q, sequential, ok)
	}
	list := []string{sequential}
	if lockstep, ok := impl.LockstepProduct(p, q); ok {
		list = append(list, lockstep)
	}
	left, right := len(impl.StatementsOf(p)), len(impl.StatementsOf(q))
	plans := []string{onePlan(seed, left, right), onePlan(seed, left, right), strings.Repeat("r", right) + strings.Repeat("l", left)}
	if left+right <= 5 {
		plans = allPlans(left, right)
	}
	for _, plan := range plans {
		if product, ok := impl.AlignProduct(p, q, plan); ok {
			list = append(list, product)
		}
	}
	return list
}

// Promise 7, for programs of every two kinds: loops of which one ends before the
// other one, that never end, or that are blocked; choices and assumptions side by
// side; sequences and ifs within each other.
func TestProductsEndInPairsOfFinalStates(t *testing.T) {
	t.Parallel()
	seed := uint32(7)
	pairs := allPairs()
	ended := 0
	for n, p := range programsOfEveryKind() {
		for k, q := range programsOfEveryKind() {
			for _, product := range productsOf(t, &seed, p, q) {
				for i := range 6 {
					at := pairs[(n*31+k*57+i*125)%729]
					ends := endsOf(p, q, at.s, at.t)
					wantEnds(t, product, p, q, at.s, at.t, ends)
					if ends != noPairs {
						ended++
					}
				}
			}
		}
	}
	if ended < 5000 {
		t.Errorf("only %d products end", ended)
	}
}

// Promise 7, from all pairs of states.
func TestProductsEndInPairsFromAllPairs(t *testing.T) {
	t.Parallel()
	seed := uint32(71)
	cases := [][2]string{
		{"@<x2ax+x1", "@<x2ax+x1"}, {"@<x2ax+x1", "@<x1ax+x1"}, {"@<x2ax+x1", "@!=x0ax+x1"}, {"@<x2/ax+x1ax0", "@<y2/~=x0ay+y1"}, {"@<x1s", "@<y2ay+y1"}, {"@<x2~f", "@=z0az1"}, {"@!=xy/ax+x1ay+y1", "?=xy/ax1ax2~<xy"},
		{"?=xy?<yzaz0s/ax1ax0", "?<xyax+x1?=z0~fay0"}, {";@<x2ax+x1;?=y0ay1sax0", ";?=z0saz0@!=y1ay+y1"}, {"?=x0;ax1@<y2ay+y1ax2", "?=y0@<x2ax+x1;ay1/say2"},
	}
	for _, c := range cases {
		for _, product := range productsOf(t, &seed, c[0], c[1]) {
			for _, at := range allPairs() {
				wantEnds(t, product, c[0], c[1], at.s, at.t, endsOf(c[0], c[1], at.s, at.t))
			}
		}
	}
}

// Promise 7, for programs of any form.
func TestProductsOfAnyPrograms(t *testing.T) {
	t.Parallel()
	seed := uint32(770)
	pairs := allPairs()
	programs := append(movingPrograms(), someLoops()...)
	for n, p := range programs {
		for k := range 2 {
			q := programs[(n*(k+2)+71*k)%len(programs)]
			for _, product := range productsOf(t, &seed, p, q) {
				for i := range 2 {
					at := pairs[(n*11+k*97+i*365)%729]
					wantEnds(t, product, p, q, at.s, at.t, endsOf(p, q, at.s, at.t))
				}
			}
		}
	}
}

// A product in sequence goes on for ever, or is blocked, as its programs are.
func TestRunsOfSequentialProducts(t *testing.T) {
	t.Parallel()
	states := allStates()
	for n, p := range programsOfEveryKind() {
		for k, q := range programsOfEveryKind() {
			s, to := states[(n*7+k)%27], states[(n+k*11)%27]
			left, _ := impl.RunsFrom(p, s)
			right, _ := impl.RunsFrom(q, to)
			goesOn := left.Finals != noStates
			product, _ := impl.SequentialProduct(p, q)
			want := impl.PairResult{Finals: endsOf(p, q, s, to), Loops: left.Loops || goesOn && right.Loops, Blocks: left.Blocks || goesOn && right.Blocks}
			wantPairResult(t, product, s, to, want, true)
		}
	}
}

// The given examples.
func TestExampleOfProducts(t *testing.T) {
	const p, want = "@<x2ax+x1", "@|<x2<X2?<x2?<X2;ax+x1aX+X1ax+x1aX+X1"
	got, ok := impl.LockstepProduct(p, p)
	wantText(t, "LockstepProduct of "+p+" with itself", got, ok, want, true)
}
