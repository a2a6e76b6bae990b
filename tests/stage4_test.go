package tests

import (
	"math"
	"strings"
	"testing"

	"loop.example/productprograms/impl"
)

func TestConstantsOfStage4(t *testing.T) {
	got := [7]int{impl.RunDone, impl.RunBlocked, impl.RunBusy, impl.RunAsks, impl.RunBroken, impl.MaxSteps, impl.MaxPicks}
	if got != [7]int{0, 1, 2, 3, 4, 300, 6} {
		t.Errorf("the constants are %v", got)
	}
}

// stateOf returns the state with a text of three digits.
func stateOf(text string) impl.State {
	return impl.State{X: int(text[0] - '0'), Y: int(text[1] - '0'), Z: int(text[2] - '0')}
}

// wantRun reports a run that is not what is expected.
func wantRun(t *testing.T, p string, s impl.State, picks string, most int, want impl.State, steps, code int) {
	t.Helper()
	if gotState, gotSteps, gotCode := impl.ReplayRun(p, s, picks, most); gotState != want || gotSteps != steps || gotCode != code {
		t.Errorf("ReplayRun(%.220q, %v, %.20q, %d) = %v, %d, %d, want %v, %d, %d", p, s, picks, most, gotState, gotSteps, gotCode, want, steps, code)
	}
}

func TestReplayOfEveryStatement(t *testing.T) {
	const done, blocked, busy, asks = impl.RunDone, impl.RunBlocked, impl.RunBusy, impl.RunAsks
	cases := []struct {
		p, from, picks string
		most           int
		to             string
		steps, code    int
	}{
		{"s", "012", "", 0, "012", 0, busy}, {"s", "012", "", 1, "012", 1, done}, {"s", "012", "", 300, "012", 1, done},
		{"ax1", "022", "", 0, "022", 0, busy}, {"ax1", "022", "", 1, "122", 1, done}, {"ay-xz", "102", "", 9, "122", 1, done},
		{"az+z2", "112", "", 9, "111", 1, done}, {"ax*yz", "022", "", 9, "122", 1, done},
		{";ax1ay2", "000", "", 0, "000", 0, busy}, {";ax1ay2", "000", "", 1, "100", 1, busy}, {";ax1ay2", "000", "", 2, "120", 2, done},
		{";;ax1ayxazy", "000", "", 3, "111", 3, done}, {";ax1;ayxazy", "000", "", 2, "110", 2, busy},
		{"?=x0ay1ay2", "000", "", 0, "000", 0, busy}, {"?=x0ay1ay2", "000", "", 1, "000", 1, busy},
		{"?=x0ay1ay2", "000", "", 2, "010", 2, done}, {"?=x0ay1ay2", "100", "", 2, "120", 2, done},
		{"@fax1", "000", "", 0, "000", 0, busy}, {"@fax1", "000", "", 1, "000", 1, done},
		{"@<x2ax+x1", "000", "", 5, "200", 5, done}, {"@<x2ax+x1", "000", "", 4, "200", 4, busy}, {"@<x2ax+x1", "000", "", 3, "100", 3, busy},
		{"@<x2ax+x1", "200", "", 1, "200", 1, done}, {"@<x2ax+x1", "200", "", 0, "200", 0, busy},
		{"@ts", "121", "", 300, "121", 300, busy}, {"@ts", "121", "", 0, "121", 0, busy}, {"@tax+x1", "000", "", 300, "000", 300, busy},
		{"@tax+x1", "000", "", 299, "200", 299, busy},
		{"~t", "000", "", 0, "000", 0, busy}, {"~t", "000", "", 1, "000", 1, done}, {"~=x1", "100", "", 1, "100", 1, done},
		{"~f", "012", "", 0, "012", 0, blocked}, {"~f", "012", "", 300, "012", 0, blocked}, {"~=x1", "000", "", 1, "000", 0, blocked},
		{";ax1~=x0", "000", "", 1, "100", 1, blocked}, {";ax1~=x0", "000", "", 0, "000", 0, busy}, {";ax1~=x0", "000", "", 2, "100", 1, blocked},
		{";ax1~=x1", "000", "", 1, "100", 1, busy}, {";~fs", "000", "", 0, "000", 0, blocked},
		{"@t~f", "000", "", 0, "000", 0, busy}, {"@t~f", "000", "", 1, "000", 1, blocked}, {"@t~f", "000", "", 300, "000", 1, blocked},
		{"@f~f", "000", "", 1, "000", 1, done}, {"@<x2;ax+x1~<x2", "000", "", 300, "200", 5, blocked},
		{"/ax1ax2", "000", "", 0, "000", 0, asks}, {"/ax1ax2", "000", "", 300, "000", 0, asks}, {"/ax1ax2", "000", "0", 0, "000", 0, busy},
		{"/ax1ax2", "000", "0", 1, "100", 1, done}, {"/ax1ax2", "000", "1", 1, "200", 1, done}, {"/ax1ax2", "000", "10", 1, "200", 1, done},
		{";s/ss", "000", "", 0, "000", 0, busy}, {";s/ss", "000", "", 1, "000", 1, asks}, {";s/ss", "000", "1", 1, "000", 1, busy},
		{";s/s~f", "000", "1", 1, "000", 1, blocked}, {";s/s~f", "000", "1", 0, "000", 0, busy}, {"/~fs", "000", "0", 0, "000", 0, blocked},
		{";s/~t/ss", "000", "1", 1, "000", 1, asks}, {";s/~t/ss", "000", "11", 1, "000", 1, busy}, {";s/~t/ss", "000", "110", 2, "000", 2, done},
		{"//ax1ax2ay1", "000", "", 9, "000", 0, asks}, {"//ax1ax2ay1", "000", "0", 9, "000", 0, asks}, {"//ax1ax2ay1", "000", "01", 9, "200", 1, done},
		{"//ax1ax2ay1", "000", "1", 9, "010", 1, done}, {"/ax1/ax2ay1", "000", "11", 9, "010", 1, done}, {"/ax1/ax2ay1", "000", "0", 9, "100", 1, done},
		{"@t/ss", "000", "000", 300, "000", 7, asks}, {"@t/ss", "000", "", 1, "000", 1, asks}, {"@t/ss", "000", "", 0, "000", 0, busy},
		{"?t/ss~f", "000", "", 1, "000", 1, asks}, {"?f/ss~f", "000", "", 1, "000", 1, blocked}, {"?f/sss", "000", "", 2, "000", 2, done},
	}
	for _, c := range cases {
		wantRun(t, c.p, stateOf(c.from), c.picks, c.most, stateOf(c.to), c.steps, c.code)
	}
}

func TestReplayOfLoopsWithinLoops(t *testing.T) {
	const p = "@<x2;ax+x1;ay0@<y2ay+y1"
	for most, want := range []string{"000", "000", "100", "100", "100", "110", "110", "120", "120", "120", "220", "200", "200", "210", "210", "220", "220"} {
		wantRun(t, p, impl.State{}, "", most, stateOf(want), most, impl.RunBusy)
	}
	wantRun(t, p, impl.State{}, "", 17, stateOf("220"), 17, impl.RunDone)
	wantRun(t, p, stateOf("100"), "", 300, stateOf("220"), 9, impl.RunDone)
	wantRun(t, p, stateOf("211"), "", 300, stateOf("211"), 1, impl.RunDone)
	wantRun(t, "@t@fs", impl.State{}, "", 300, impl.State{}, 300, impl.RunBusy)
	wantRun(t, "@<x1@=y0;ay1ax2", impl.State{}, "", 300, stateOf("210"), 6, impl.RunDone)
	wantRun(t, "@=x0@=y0;ay1~=z1", impl.State{}, "", 300, stateOf("010"), 3, impl.RunBlocked)
}

// What stands behind the picks that a run takes changes nothing, however long
// it is.
func TestPicksLeftOver(t *testing.T) {
	for _, more := range []string{"", "0", "1", "0110", strings.Repeat("01", 5000)} {
		wantRun(t, "s", stateOf("012"), more, 9, stateOf("012"), 1, impl.RunDone)
		wantRun(t, "~f", stateOf("012"), more, 9, stateOf("012"), 0, impl.RunBlocked)
		wantRun(t, "@ts", stateOf("012"), more, 9, stateOf("012"), 9, impl.RunBusy)
		wantRun(t, "@<x2/ax+x1ax0", stateOf("010"), "0100"+more, 100, stateOf("210"), 9, impl.RunDone)
		wantRun(t, "/s~f", stateOf("012"), "1"+more, 9, stateOf("012"), 0, impl.RunBlocked)
	}
}

func TestRunsOfInvalidArguments(t *testing.T) {
	const p = ";s/ax1ax2"
	wantRun(t, p, impl.State{}, "1", 300, stateOf("200"), 2, impl.RunDone)
	wantRun(t, p, impl.State{}, "1", 0, stateOf("000"), 0, impl.RunBusy)
	for _, most := range []int{-1, -2, -300, 301, 302, 1000, 1 << 32, math.MaxInt, math.MinInt} {
		wantRun(t, p, impl.State{}, "1", most, impl.State{}, 0, impl.RunBroken)
		wantRun(t, "~f", stateOf("111"), "", most, impl.State{}, 0, impl.RunBroken)
	}
	for b := range 256 {
		letter := string([]byte{byte(b)})
		if letter == "0" || letter == "1" {
			continue
		}
		for _, picks := range []string{letter, "1" + letter, letter + "1", "10" + letter, "1" + letter + "1", "0101" + letter + "01"} {
			wantRun(t, p, stateOf("111"), picks, 300, impl.State{}, 0, impl.RunBroken)
			wantRun(t, "s", stateOf("111"), picks, 0, impl.State{}, 0, impl.RunBroken)
		}
	}
	for _, picks := range []string{"é", "0é1", "１", "01\xff", strings.Repeat("01", 5000) + "2"} {
		wantRun(t, p, stateOf("111"), picks, 300, impl.State{}, 0, impl.RunBroken)
	}
	for _, s := range brokenStates() {
		wantRun(t, p, s, "1", 300, impl.State{}, 0, impl.RunBroken)
		checkNoRuns(t, p, s)
		wantPicks(t, p, s, impl.State{}, "", false)
		wantPicks(t, p, impl.State{}, s, "", false)
		wantPicks(t, p, s, s, "", false)
		got, ok := impl.HeadStates("<x2", "ax+x1", s)
		wantText(t, "HeadStates from no state", got, ok, "", false)
	}
	for _, pre := range brokenSets() {
		got, ok := impl.PostOf(p, pre)
		wantText(t, "PostOf of what is no set", got, ok, "", false)
		got, ok = impl.PostOf("x", pre)
		wantText(t, "PostOf of what is no program and no set", got, ok, "", false)
	}
}

func checkNoRuns(t *testing.T, p string, s impl.State) {
	t.Helper()
	if r, ok := impl.RunsFrom(p, s); r != (impl.Result{}) || ok {
		t.Errorf("RunsFrom(%.60q, %v) = %v, %v", p, s, r, ok)
	}
}

func wantPicks(t *testing.T, p string, s, to impl.State, want string, wantOK bool) {
	t.Helper()
	if got, ok := impl.PicksTo(p, s, to); got != want || ok != wantOK {
		t.Errorf("PicksTo(%.220q, %v, %v) = %q, %v, want %q, %v", p, s, to, got, ok, want, wantOK)
	}
}

// setsOf returns the functions that return a set of a program.
func setsOf() map[string]func(string) (string, bool) {
	return map[string]func(string) (string, bool){
		"MayLoop": impl.MayLoop, "MayBlock": impl.MayBlock, "MayEnd": impl.MayEnd, "SurelyEnds": impl.SurelyEnds,
	}
}

func TestRunsOfWhatIsNoProgram(t *testing.T) {
	texts := append(brokenPrograms(), "ax"+longSum(199), strings.Repeat("@t", 100)+"s", strings.Repeat("/s", 100)+"s")
	for _, p := range texts {
		wantRun(t, p, stateOf("111"), "01", 9, impl.State{}, 0, impl.RunBroken)
		checkNoRuns(t, p, stateOf("111"))
		wantPicks(t, p, stateOf("111"), stateOf("111"), "", false)
		for name, f := range setsOf() {
			got, ok := f(p)
			wantText(t, name+" of what is no program", got, ok, "", false)
		}
		for _, pre := range []string{everyState, noStates} {
			got, ok := impl.PostOf(p, pre)
			wantText(t, "PostOf of what is no program", got, ok, "", false)
		}
		for _, test := range []string{"t", "f"} {
			got, ok := impl.HeadStates(test, p, impl.State{})
			wantText(t, "HeadStates of what is no body", got, ok, "", false)
		}
	}
	for _, test := range append(someExprs(), brokenEverywhere()...) {
		got, ok := impl.HeadStates(test, "s", impl.State{})
		wantText(t, "HeadStates of what is no test", got, ok, "", false)
	}
	for _, test := range []string{"ts", "<x2s", "s", strings.Repeat("!", 200) + "t"} {
		got, ok := impl.HeadStates(test, "s", impl.State{})
		wantText(t, "HeadStates of what is no test", got, ok, "", false)
	}
}

func TestRunsFromAState(t *testing.T) {
	cases := []struct {
		p, from       string
		finals        string
		loops, blocks bool
	}{
		{"s", "012", "012", false, false}, {"ax1", "012", "112", false, false}, {"~t", "012", "012", false, false},
		{"~f", "012", "", false, true}, {"@ts", "012", "", true, false}, {"@fs", "012", "012", false, false},
		{"@t~f", "012", "", false, true}, {"@t;s~f", "012", "", false, true}, {"@f~f", "012", "012", false, false}, {"@t@fs", "012", "", true, false},
		{"@t@ts", "012", "", true, false}, {"@f@ts", "012", "012", false, false}, {";@ts~f", "012", "", true, false}, {";~f@ts", "012", "", false, true},
		{"/ax1ax2", "000", "100 200", false, false}, {"/ax1ax1", "000", "100", false, false}, {"/s~f", "000", "000", false, true},
		{"/s@ts", "000", "000", true, false}, {"/~f@ts", "000", "", true, true}, {"//s~f@ts", "000", "000", true, true},
		{"@t/ss", "000", "", true, false}, {"@t/s~f", "000", "", true, true}, {"@t/~f~f", "000", "", false, true}, {"@=x0/sax1", "000", "100", true, false},
		{"@=x0/ax1ax2", "000", "100 200", false, false}, {"@=x0/ax1~f", "000", "100", false, true}, {"@<x2/ax+x1ax0", "010", "210", true, false},
		{"@<x2/ax+x1ax0", "222", "222", false, false}, {"@<x2/ax+x1~=x0", "000", "200", true, true}, {"@<x2;ax+x1/s~=x2", "000", "200", false, true},
		// A choice that is never made, or is made once only.
		{"?f/ax1@tsax2", "000", "200", false, false}, {"?f/~f@tss", "000", "000", false, false}, {"?t~=x0/~f@ts", "000", "000", false, false},
		{"@<x1;ax1/sax2", "000", "100 200", false, false}, {";~=x1/s@ts", "000", "", false, true}, {"@f/~f@ts", "000", "000", false, false},
		{"@t;ax+x1?=x1s/ss", "000", "", true, false},
		// A run that comes to the same state again, but elsewhere, ends.
		{";s;s;ss", "000", "000", false, false}, {";@=x0ax1;ax0@=x0ax1", "000", "100", false, false}, {"/;ss;ss", "000", "000", false, false},
		{";/ss/ss", "000", "000", false, false}, {"@=y0;@=x0ax1;ax0/ay1ay2", "000", "010 020", false, false},
		// Loops within loops.
		{"@<x2;ax+x1;ay0@<y2ay+y1", "000", "220", false, false}, {"@<x2@<y2ay+y1", "000", "", true, false}, {"@<x2;ax+x1;@<y2sax2", "000", "", true, false},
		{"@<x2;ax+x1@<y2s", "020", "220", false, false}, {"@<x1@<y1/ax1ay1", "000", "110", true, false}, {"@<x1@<y1;ay1/sax1", "000", "110", true, false},
		{"@=z0@=y0@=x0/ax1/ay1/az1~f", "000", "111", true, true}, {"@=z0;@=y0;/ax1ay1ay1az1", "000", "011 111", false, false},
	}
	for _, c := range cases {
		want := modelSet(func(s impl.State) bool {
			return strings.Contains(" "+c.finals+" ", " "+impl.FormatState(s)+" ")
		})
		if r, ok := impl.RunsFrom(c.p, stateOf(c.from)); r != (impl.Result{Finals: want, Loops: c.loops, Blocks: c.blocks}) || !ok {
			t.Errorf("RunsFrom(%q, %s) = %v, %v, want %s, %v, %v", c.p, c.from, r, ok, c.finals, c.loops, c.blocks)
		}
	}
}

func TestSetsOfRuns(t *testing.T) {
	cases := []struct{ p, loops, blocks, ends, surely string }{
		{"s", "f", "f", "t", "t"}, {"@ts", "t", "f", "f", "f"}, {"~f", "f", "t", "f", "f"}, {"~<x2", "f", "=x2", "<x2", "<x2"},
		{"@<x2/ax+x1ax0", "<x2", "f", "t", "=x2"}, {"@<x2s", "<x2", "f", "=x2", "=x2"}, {"/~=x0@=y0s", "=y0", "!=x0", "|=x0!=y0", "&=x0!=y0"},
		{"@=x1/s~f", "=x1", "=x1", "!=x1", "!=x1"}, {";ax0@=x1s", "f", "f", "t", "t"}, {";ax1@=x1s", "t", "f", "f", "f"},
		{"?=xy@tss", "=xy", "f", "!=xy", "!=xy"}, {"@!=xy;ay+y1~!=z2", "f", "&!=xy=z2", "|=xy!=z2", "|=xy!=z2"}, {"/s~f", "f", "t", "t", "f"},
		{"@=x0@=y0@=z0s", "=x0", "f", "!=x0", "!=x0"}, {"@=x0;ax1@=y0@=z0s", "&=x0&=y0!=y1", "f", "|!=x0!=y0", "|!=x0!=y0"},
	}
	for _, c := range cases {
		for name, test := range map[string]string{"MayLoop": c.loops, "MayBlock": c.blocks, "MayEnd": c.ends, "SurelyEnds": c.surely} {
			got, ok := setsOf()[name](c.p)
			wantText(t, name+" of "+c.p, got, ok, modelPredOf(test), true)
		}
	}
}

func TestPostOf(t *testing.T) {
	cases := []struct{ p, pre, post string }{
		{"s", "=xy", "=xy"}, {"ax1", "t", "=x1"}, {"ax1", "=y2", "&=x1=y2"}, {"ax1", "f", "f"}, {"~=x1", "t", "=x1"}, {"~=x1", "=x0", "f"},
		{"@ts", "t", "f"}, {"@<x2/ax+x1ax0", "t", "=x2"}, {"@<x2/ax+x1ax0", "=y0", "&=x2=y0"}, {"/ax1ax2", "=x0", "!=x0"},
		{"/s~f", "<xy", "<xy"}, {"?=x0@tsay1", "t", "&!=x0=y1"}, {"@<x2;ax+x1ay+y1", "&=x0=y0", "&=x2=y2"},
	}
	for _, c := range cases {
		got, ok := impl.PostOf(c.p, modelPredOf(c.pre))
		wantText(t, "PostOf of "+c.p+" and "+c.pre, got, ok, modelPredOf(c.post), true)
	}
	for _, p := range []string{"s", "@ts", "~f", "/ax1ax2"} {
		got, ok := impl.PostOf(p, noStates)
		wantText(t, "PostOf of "+p+" and no states", got, ok, noStates, true)
	}
}

// Every function that tells of all runs is compared with the model.
func TestOutcomesAgainstTheModel(t *testing.T) {
	sets := fewSets()
	for n, p := range programsToRun() {
		m := tableOf(modelTree(p))
		ends := func(s impl.State) bool { return m.finals[numberOf(s)] != [27]bool{} }
		for i, s := range allStates() {
			finals := modelSet(func(to impl.State) bool { return m.finals[i][numberOf(to)] })
			want := impl.Result{Finals: finals, Loops: m.loops[i], Blocks: m.blocks[i]}
			if r, ok := impl.RunsFrom(p, s); r != want || !ok {
				t.Fatalf("RunsFrom(%q, %v) = %v, %v, want %v", p, s, r, ok, want)
			}
		}
		want := map[string]string{
			"MayLoop":    modelSet(func(s impl.State) bool { return m.loops[numberOf(s)] }),
			"MayBlock":   modelSet(func(s impl.State) bool { return m.blocks[numberOf(s)] }),
			"MayEnd":     modelSet(ends),
			"SurelyEnds": modelSet(func(s impl.State) bool { return !m.loops[numberOf(s)] && !m.blocks[numberOf(s)] }),
		}
		for name, f := range setsOf() {
			got, ok := f(p)
			wantText(t, name+" of "+p, got, ok, want[name], true)
		}
		for _, pre := range []string{everyState, noStates, sets[n%len(sets)], sets[(n+7)%len(sets)]} {
			got, ok := impl.PostOf(p, pre)
			wantText(t, "PostOf of "+p+" and "+pre, got, ok, modelImage(m, pre), true)
		}
	}
}

// modelImage returns the final states from those of a set.
func modelImage(m modelTable, pre string) string {
	return modelSet(func(to impl.State) bool {
		for i := range pre {
			if pre[i] == '1' && m.finals[i][numberOf(to)] {
				return true
			}
		}
		return false
	})
}

func TestReplayAgainstTheModel(t *testing.T) {
	picks := append(allPicks(4), "0000000000", "1111111111", "0101010101", "1000100010001", "110110110110110")
	states := allStates()
	for n, p := range programsToRun() {
		tree := modelTree(p)
		for i, pick := range picks {
			s := states[(n+5*i)%27]
			for _, most := range []int{0, 1, 2, 3, 5, (n + i) % 40, 299, 300} {
				r := replayModel(tree, s, pick, most)
				wantRun(t, p, s, pick, most, r.s, r.steps, r.code)
			}
		}
	}
}

func TestPicksAgainstTheModel(t *testing.T) {
	states := allStates()
	for n, p := range programsToRun() {
		tree := modelTree(p)
		for _, s := range []impl.State{states[n%27], states[(n+13)%27]} {
			found := modelPicks(tree, s)
			for _, to := range states {
				want, ok := found[to]
				wantPicks(t, p, s, to, want, ok)
			}
		}
	}
}

func TestPicksTo(t *testing.T) {
	cases := []struct {
		p, from, to, want string
		ok                bool
	}{
		{"s", "012", "012", "", true}, {"s", "012", "011", "", false}, {"ax1", "000", "100", "", true}, {"~f", "000", "000", "", false},
		{"@ts", "000", "000", "", false}, {"@fs", "000", "000", "", true}, {"/ax1ax2", "000", "100", "0", true}, {"/ax1ax2", "000", "200", "1", true},
		{"/ax1ax2", "000", "000", "", false}, {"/ax1ax1", "000", "100", "0", true}, {"/~fax1", "000", "100", "1", true}, {"/@tsax1", "000", "100", "1", true},
		{"//ax1ax2ax1", "000", "100", "1", true}, {"//ax1ax2ax1", "000", "200", "01", true}, {"/ax1/ax1ax2", "000", "100", "0", true},
		{"//~fax1/ax1s", "000", "100", "01", true}, {"/;/sss/s/ss", "000", "000", "00", true}, {";/s~f/~fs", "000", "000", "01", true},
		{"?f/sss", "000", "000", "", true}, {"?f/s/ss/ss", "000", "000", "0", true}, {";/ax1ax2~=x2", "000", "200", "1", true},
		{"@<x2/ax+x1ax0", "000", "200", "00", true}, {"@<x2/ax0ax+x1", "000", "200", "11", true}, {"@<x2/ax+x1ax0", "200", "200", "", true},
		{"@<x2/ax+x1ax0", "000", "100", "", false}, {"@=x0/sax1", "000", "100", "1", true}, {"@=x0/s/sax1", "000", "100", "11", true},
	}
	for _, c := range cases {
		wantPicks(t, c.p, stateOf(c.from), stateOf(c.to), c.want, c.ok)
	}
}

func TestAsManyPicksAsAllowed(t *testing.T) {
	for _, c := range []struct{ choice, pick string }{{"/ss", "0"}, {"/~fs", "1"}, {"/s@ts", "0"}, {"/@ts~t", "1"}} {
		p := c.choice
		for n := 1; n <= 8; n++ {
			if n <= 6 {
				wantPicks(t, p, stateOf("012"), stateOf("012"), strings.Repeat(c.pick, n), true)
			} else {
				wantPicks(t, p, stateOf("012"), stateOf("012"), "", false)
			}
			wantRun(t, p, stateOf("012"), strings.Repeat(c.pick, n), 300, stateOf("012"), n, impl.RunDone)
			p = ";" + c.choice + p
		}
	}
	// The choices are within each other: the deepest one is the last one.
	wantPicks(t, "/s/s/s/s/s/sax1", stateOf("000"), stateOf("100"), "111111", true)
	wantPicks(t, "/s/s/s/s/s/s/sax1", stateOf("000"), stateOf("100"), "", false)
	wantPicks(t, "/s/s/s/s/s/s/sax1", stateOf("000"), stateOf("000"), "0", true)
	// A pick is needed in some turns of the loop, in all, or twice in some.
	wantPicks(t, "@!=y2;ax+x1?=x0ay+y1/ss", stateOf("000"), stateOf("020"), "0000", true)
	wantPicks(t, "@!=z2;/ss;ax+x1?=x0az+z1s", stateOf("000"), stateOf("002"), "000000", true)
	wantPicks(t, "@!=z2;/ss;ax+x1?=x0az+z1/ss", stateOf("000"), stateOf("002"), "", false)
}

// countingProgram has from `000` a run of exactly as many steps, from 41 on: a
// statement more within all three loops takes eight steps.
func countingProgram(steps int) string {
	more := steps - 41
	within := strings.Repeat(";s", more/8)
	return strings.Repeat(";s", more%8) + "@<x2;ax+x1;ay0@<y2;ay+y1;az0@<z2" + within + "az+z1"
}

func TestStepsThatAreJustEnough(t *testing.T) {
	for _, steps := range []int{41, 42, 48, 49, 100, 298, 299, 300} {
		p := countingProgram(steps)
		wantRun(t, p, impl.State{}, "", steps, stateOf("222"), steps, impl.RunDone)
		wantRun(t, p, impl.State{}, "", 300, stateOf("222"), steps, impl.RunDone)
		wantRun(t, p, impl.State{}, "", steps-1, stateOf("222"), steps-1, impl.RunBusy)
		wantPicks(t, p, impl.State{}, stateOf("222"), "", true)
	}
	for _, steps := range []int{301, 302, 400} {
		p := countingProgram(steps)
		r := replayModel(modelTree(p), impl.State{}, "", 300)
		wantRun(t, p, impl.State{}, "", 300, r.s, 300, impl.RunBusy)
		wantPicks(t, p, impl.State{}, stateOf("222"), "", false)
		// The run ends all the same.
		if r, ok := impl.RunsFrom(p, impl.State{}); r != (impl.Result{Finals: single(26)}) || !ok {
			t.Errorf("RunsFrom of a run of %d steps = %v, %v", steps, r, ok)
		}
	}
}

func TestChoicesAfterMostSteps(t *testing.T) {
	for _, steps := range []int{41, 299, 300} {
		p := ";" + countingProgram(steps) + "/ax1~=x0"
		wantRun(t, p, impl.State{}, "", steps, stateOf("222"), steps, impl.RunAsks)
		wantRun(t, p, impl.State{}, "0", steps, stateOf("222"), steps, impl.RunBusy)
		wantRun(t, p, impl.State{}, "1", steps, stateOf("222"), steps, impl.RunBlocked)
		wantRun(t, p, impl.State{}, "", steps-1, stateOf("222"), steps-1, impl.RunBusy)
		wantPicks(t, p, impl.State{}, stateOf("122"), map[bool]string{true: "0"}[steps < 300], steps < 300)
	}
	p := ";" + countingProgram(301) + "/ax1ax1"
	wantRun(t, p, impl.State{}, "", 300, stateOf("222"), 300, impl.RunBusy)
	wantPicks(t, p, impl.State{}, stateOf("122"), "", false)
	// The first picks lead to the same state, but by one step too many.
	p = ";/;ss/~fs" + countingProgram(299)
	wantRun(t, p, impl.State{}, "11", 300, stateOf("222"), 300, impl.RunDone)
	wantPicks(t, p, impl.State{}, stateOf("222"), "11", true)
	p = ";/;ss/~fs" + countingProgram(298)
	wantPicks(t, p, impl.State{}, stateOf("222"), "0", true)
	p = ";/;ss/~fs" + countingProgram(300)
	wantPicks(t, p, impl.State{}, stateOf("222"), "", false)
}

func TestHeadStates(t *testing.T) {
	cases := []struct{ test, body, from, heads string }{
		{"<x2", "ax+x1", "010", "010 110 210"}, {"<x2", "ax+x1", "110", "110 210"}, {"<x2", "ax+x1", "210", "210"},
		{"f", "ax1", "000", "000"}, {"t", "s", "012", "012"}, {"t", "ax+x1", "000", "000 100 200"}, {"t", "~f", "012", "012"}, {"t", "@ts", "012", "012"},
		{"t", ";ax1~f", "000", "000"}, {"=x0", "/ax1ax2", "000", "000 100 200"}, {"=x0", "/ax1~f", "000", "000 100"}, {"t", "/ax1@ts", "000", "000 100"},
		{"<x2", ";ax+x1ay+y1", "000", "000 110 220"}, {"<x2", ";;ay1ay0ax+x1", "000", "000 100 200"}, {"=x0", "?fax1ax2", "000", "000 200"},
		// A loop within looks at a test of its own, also if it is the same one.
		{"<x2", "@<x2ax+x1", "000", "000 200"}, {"=y0", ";@<x2ax+x1ay1", "000", "000 210"}, {"<x1", ";ax1;@=x1ax2ay1", "000", "000 210"},
	}
	for _, c := range cases {
		want := modelSet(func(s impl.State) bool {
			return strings.Contains(" "+c.heads+" ", " "+impl.FormatState(s)+" ")
		})
		got, ok := impl.HeadStates(c.test, c.body, stateOf(c.from))
		wantText(t, "HeadStates of "+c.test+", "+c.body+", "+c.from, got, ok, want, true)
	}
}

func TestHeadStatesAgainstTheModel(t *testing.T) {
	tests := append(someTests()[:30], "<x2", "!=z0", "|<x2<y2", "!=xy", "t")
	for n, body := range programsToRun() {
		test := tests[n%len(tests)]
		for _, s := range []impl.State{{}, allStates()[n%27], allStates()[(n+17)%27]} {
			got, ok := impl.HeadStates(test, body, s)
			wantText(t, "HeadStates of "+test+", "+body+", "+impl.FormatState(s), got, ok, modelHeads(test, body, s), true)
		}
	}
}

// The test and the body each have a limit, and not both together.
func TestHeadStatesAtTheLimit(t *testing.T) {
	test := strings.Repeat("!", 197) + "=x2"
	for _, body := range append(fullPrograms(), strings.Repeat(";s", 98)+"ax2", strings.Repeat(";s", 98)+"~=x0") {
		if len(test) != 200 || len(body) < 199 {
			t.Fatalf("the test has %d bytes, and the body %d", len(test), len(body))
		}
		for _, s := range []impl.State{{}, stateOf("101"), stateOf("222")} {
			got, ok := impl.HeadStates(test, body, s)
			wantText(t, "HeadStates of "+test+", "+body, got, ok, modelHeads(test, body, s), true)
			got, ok = impl.HeadStates("!"+test, body, s)
			wantText(t, "HeadStates of a test that is too long", got, ok, "", false)
			got, ok = impl.HeadStates(test, ";s"+body, s)
			wantText(t, "HeadStates of a body that is too long", got, ok, "", false)
		}
	}
}

// Programs whose runs are at most 300 steps long, or never end: a run of more
// steps is twice at the same statement in the same state.
func fewStatements() []string {
	var list []string
	for _, p := range append(programsToRun(), someLoops()...) {
		if impl.SizeOf(p) <= 11 {
			list = append(list, p)
		}
	}
	return list
}

// someLoops returns loops within loops, and loops with choices and blocks.
func someLoops() []string {
	bodies := []string{"s", "~f", "ax+x1", "/ss", "/s~f", "/ax+x1ax0", ";ax+x1~<x2", "/~fax1", "/@tsax+x1", "?f/s~fax+x1"}
	var list []string
	for _, test := range []string{"t", "f", "<x2", "=x0"} {
		inner := compounds("@", []string{test}, bodies)
		list = append(list, inner...)
		list = append(list, compounds("@", []string{"<x2", "=y0", "t"}, inner)...)
		list = append(list, compounds(";", inner, []string{"~=x2", "ay1"})...)
		list = append(list, compounds("@", []string{"=y0"}, compounds(";", inner, []string{"ay1"}))...)
	}
	return list
}

// Promise 4: no run does what is not told beforehand.
func TestWhateverRunsDoIsTold(t *testing.T) {
	picks := append(allPicks(5), "01101001100101101001011001101001", strings.Repeat("0", 400), strings.Repeat("1", 400), strings.Repeat("01", 200))
	for n, p := range fewStatements() {
		for _, i := range []int{n % 27, (n + 11) % 27} {
			s := allStates()[i]
			r, _ := impl.RunsFrom(p, s)
			for _, pick := range picks {
				to, steps, code := impl.ReplayRun(p, s, pick, 300)
				told := false
				switch code {
				case impl.RunDone:
					told = impl.HasState(r.Finals, to)
				case impl.RunBlocked:
					told = r.Blocks
				case impl.RunBusy:
					told = r.Loops && steps == 300
				case impl.RunAsks:
					// With further picks, the run does one of these.
					told = r.Loops || r.Blocks || r.Finals != noStates
				}
				if !told {
					t.Fatalf("ReplayRun(%q, %v, %.40q) = %v, %d, %d, but RunsFrom returns %v", p, s, pick, to, steps, code, r)
				}
			}
		}
	}
}

// Promise 4: what is told beforehand is what some run does. Without loops, each
// run needs no more picks than there are choices.
func TestWhatIsToldIsDone(t *testing.T) {
	for n, p := range fewStatements() {
		if impl.LoopCount(p) > 0 || strings.Count(p, "/") > 6 {
			continue
		}
		for _, i := range []int{n % 27, (n + 11) % 27} {
			s := allStates()[i]
			r, _ := impl.RunsFrom(p, s)
			blocks := false
			for _, pick := range allPicks(strings.Count(p, "/")) {
				_, _, code := impl.ReplayRun(p, s, pick, 300)
				blocks = blocks || code == impl.RunBlocked
			}
			if r.Loops || r.Blocks != blocks {
				t.Fatalf("RunsFrom(%q, %v) = %v, but whether a run is blocked is %v", p, s, r, blocks)
			}
			for _, to := range allStates() {
				pick, ok := impl.PicksTo(p, s, to)
				if ok != impl.HasState(r.Finals, to) {
					t.Fatalf("PicksTo(%q, %v, %v) = %q, %v, but RunsFrom returns %v", p, s, to, pick, ok, r)
				}
			}
		}
	}
}

// Promise 4: a program without choices has one run from each state, which does
// exactly what is told.
func TestTheOnlyRunDoesWhatIsTold(t *testing.T) {
	for _, p := range fewStatements() {
		if strings.Contains(p, "/") {
			continue
		}
		for _, s := range allStates() {
			to, _, code := impl.ReplayRun(p, s, "", 300)
			want := impl.Result{Finals: noStates, Loops: code == impl.RunBusy, Blocks: code == impl.RunBlocked}
			if code == impl.RunDone {
				want.Finals = single(numberOf(to))
			}
			if r, _ := impl.RunsFrom(p, s); r != want || code == impl.RunAsks {
				t.Fatalf("RunsFrom(%q, %v) = %v, but the only run ends at %v with %d", p, s, r, to, code)
			}
		}
	}
}

// Promise 4: the sets of a program tell of each state what its runs tell, and
// picks lead where they should.
func TestSetsTellWhatRunsTell(t *testing.T) {
	for _, p := range append(fewStatements(), countingProgram(300)) {
		loops, _ := impl.MayLoop(p)
		blocks, _ := impl.MayBlock(p)
		ends, _ := impl.MayEnd(p)
		surely, _ := impl.SurelyEnds(p)
		union := noStates
		for i, s := range allStates() {
			r, _ := impl.RunsFrom(p, s)
			if impl.HasState(loops, s) != r.Loops || impl.HasState(blocks, s) != r.Blocks || impl.HasState(ends, s) != (r.Finals != noStates) || impl.HasState(surely, s) == (r.Loops || r.Blocks) {
				t.Fatalf("the sets of %q do not tell of %v what RunsFrom does: %v", p, s, r)
			}
			if post, _ := impl.PostOf(p, single(i)); post != r.Finals {
				t.Fatalf("PostOf of %q and %v is %q, and not %q", p, s, post, r.Finals)
			}
			if r.Finals == noStates && !r.Loops && !r.Blocks {
				t.Fatalf("%q has no runs at all from %v", p, s)
			}
			union, _ = impl.OrPred(union, r.Finals)
			to, ok := impl.FirstState(r.Finals)
			if pick, found := impl.PicksTo(p, s, to); ok && found {
				wantEnd(t, p, s, pick, to)
			}
		}
		post, ok := impl.PostOf(p, everyState)
		wantText(t, "PostOf of "+p+" and all states", post, ok, union, true)
	}
}

// wantEnd checks that picks lead to a state, and that none of them is left over.
func wantEnd(t *testing.T, p string, s impl.State, picks string, to impl.State) {
	t.Helper()
	if got, _, code := impl.ReplayRun(p, s, picks, 300); got != to || code != impl.RunDone {
		t.Errorf("ReplayRun(%q, %v, %q, 300) = %v, _, %d, want %v", p, s, picks, got, code, to)
	}
	if picks == "" {
		return
	}
	if got, _, code := impl.ReplayRun(p, s, picks[:len(picks)-1], 300); code != impl.RunAsks {
		t.Errorf("ReplayRun(%q, %v) without the last one of %q = %v, _, %d", p, s, picks, got, code)
	}
}
