package tests

import (
	"slices"
	"strings"
	"testing"

	"loop.example/productprograms/impl"
)

func TestWeakestConditions(t *testing.T) {
	cases := []struct{ p, post, free, total string }{
		{"s", "=xy", "=xy", "=xy"}, {"s", "f", "f", "f"}, {"s", "t", "t", "t"},
		{"ax+x1", "=x0", "=x2", "=x2"}, {"ax1", "=x0", "f", "f"}, {"ax1", "=x1", "t", "t"}, {"ax1", "&=x1=y2", "=y2", "=y2"},
		{";ax1ayx", "=y1", "t", "t"}, {";ayxax1", "=y1", "=x1", "=x1"}, {";ax+x1;ay+yxaxz", "&=x0=y0", "&=z0=+y+x10", "&=z0=+y+x10"},
		{"?=x0ay1ay2", "=y1", "=x0", "=x0"}, {"?=x0ay1ay2", "=y2", "!=x0", "!=x0"}, {"?<xyax1~f", "=x1", "t", "<xy"}, {"?<xy@tss", "f", "<xy", "f"},
		{"/ax1ax2", "=x1", "f", "f"}, {"/ax1ax2", "!=x0", "t", "t"}, {"/sax1", "=x1", "=x1", "=x1"}, {"/ay0ay1", "=yx", "f", "f"},
		{"~=x1", "f", "!=x1", "f"}, {"~=x1", "t", "t", "=x1"}, {"~=x1", "=y0", "|!=x1=y0", "&=x1=y0"}, {"~t", "=z1", "=z1", "=z1"},
		// Programs without final states.
		{"~f", "f", "t", "f"}, {"~f", "t", "t", "f"}, {"@ts", "f", "t", "f"}, {"@ts", "t", "t", "f"}, {";ax1~=x0", "f", "t", "f"},
		{"@tax+x1", "=y0", "t", "f"}, {"@t~f", "f", "t", "f"}, {"/~f@ts", "f", "t", "f"}, {";~f@ts", "=x0", "t", "f"}, {"@t/ss", "f", "t", "f"},
		// Programs that may never end, or may be blocked.
		{"/s~f", "=xy", "=xy", "f"}, {"/s@ts", "=xy", "=xy", "f"}, {"@=x1/s~f", "f", "=x1", "f"}, {"@=x1/s~f", "=x0", "!=x2", "=x0"},
		{"@=x1s", "t", "t", "!=x1"}, {"@=x1s", "f", "=x1", "f"}, {"@=x1s", "=y0", "|=x1=y0", "&!=x1=y0"}, {"/s~=x1", "=y0", "=y0", "&=x1=y0"},
		{"/ax1~=y0", "=x1", "|=x1!=y0", "&=x1=y0"},
		{"@<x2/ax+x1ax0", "=x2", "t", "=x2"}, {"@<x2/ax+x1ax0", "=y0", "=y0", "&=x2=y0"}, {"@<x2/ax+x1ax0", "f", "f", "f"},
		// Loops.
		{"@fax1", "=x0", "=x0", "=x0"}, {"@f@ts", "=x0", "=x0", "=x0"}, {"@f~f", "=x0", "=x0", "=x0"}, {"@<x2ax+x1", "f", "f", "f"}, {"@<x2ax+x1", "=x2", "t", "t"},
		{"@<x2ax+x1", "=y1", "=y1", "=y1"}, {"@<x2;ax+x1ay+y1", "=y2", "=xy", "=xy"}, {"@<x2;ax+x1~<x2", "f", "<x2", "f"}, {"@<x2;ax+x1~<x2", "t", "t", "=x2"},
		{"@=x0@=y0s", "=y1", "|=x0=y1", "&!=x0=y1"}, {"@=y0;@<x2ax+x1ay1", "=x2", "|=y0=x2", "|=y0=x2"}, {"@=y0@=x0ax1", "f", "=y0", "f"},
	}
	for _, c := range cases {
		post := modelPredOf(c.post)
		got, ok := impl.WeakestFree(c.p, post)
		wantText(t, "WeakestFree of "+c.p+" and "+c.post, got, ok, modelPredOf(c.free), true)
		got, ok = impl.WeakestTotal(c.p, post)
		wantText(t, "WeakestTotal of "+c.p+" and "+c.post, got, ok, modelPredOf(c.total), true)
	}
}

func TestTriplesOfPrograms(t *testing.T) {
	cases := []struct {
		pre, p, post string
		free, total  bool
	}{
		{"t", "s", "t", true, true}, {"t", "s", "=xy", false, false}, {"=xy", "s", "=xy", true, true}, {"=x0", "s", "=x1", false, false},
		{"=x2", "ax+x1", "=x0", true, true}, {"!=x1", "ax+x1", "=x0", false, false}, {"t", "ax1", "=x1", true, true},
		{"f", "s", "f", true, true}, {"f", "@ts", "f", true, true}, {"f", "~f", "f", true, true}, {"f", "ax1", "=x0", true, true},
		{"t", "@ts", "f", true, false}, {"t", "~f", "f", true, false}, {"t", "@ts", "t", true, false}, {"t", "~f", "t", true, false},
		{"&=x0=y0", "@ts", "f", true, false}, {"=x1", "~=x0", "f", true, false}, {"=x0", "~=x0", "t", true, true}, {"t", "~=x0", "=x0", true, false},
		{"=xy", "@<x2;ax+x1ay+y1", "=y2", true, true}, {"t", "@<x2;ax+x1ay+y1", "=y2", false, false},
		{"t", "@<x2/ax+x1ax0", "=x2", true, false}, {"=x2", "@<x2/ax+x1ax0", "=x2", true, true}, {"t", "/ax1ax2", "=x1", false, false},
		{"t", "/ax1~f", "=x1", true, false}, {"t", "/ax1@ts", "=x1", true, false}, {"t", "/ax1@ts", "=x0", false, false},
	}
	for _, c := range cases {
		pre, post := modelPredOf(c.pre), modelPredOf(c.post)
		free, total := impl.TripleHolds(pre, c.p, post), impl.TotalHolds(pre, c.p, post)
		if free != c.free || total != c.total {
			t.Errorf("TripleHolds and TotalHolds of %s, %s and %s = %v, %v, want %v, %v", c.pre, c.p, c.post, free, total, c.free, c.total)
		}
	}
}

func wantCounter(t *testing.T, pre, p, post string, want, wantTo impl.State, wantOK bool) {
	t.Helper()
	if from, to, ok := impl.CounterTriple(pre, p, post); from != want || to != wantTo || ok != wantOK {
		t.Errorf("CounterTriple(%.30q, %.220q, %.30q) = %v, %v, %v, want %v, %v, %v", pre, p, post, from, to, ok, want, wantTo, wantOK)
	}
}

func TestCounterTriple(t *testing.T) {
	cases := []struct{ pre, p, post, want string }{
		{"t", "s", "f", "000 000"}, {"!=x0", "s", "f", "100 100"}, {"t", "s", "!=z2", "002 002"}, {"&=x2&=y2=z2", "s", "f", "222 222"}, {"t", "s", "t", ""},
		{"t", "ax1", "=x0", "000 100"}, {"=y2", "ax1", "=x0", "020 120"}, {"t", "ax+x1", "!=x0", "200 000"}, {"f", "s", "f", ""},
		{"t", "/ax2ax1", "f", "000 100"}, {"t", "/ax2ax1", "!=x2", "000 200"}, {"t", "/ax1ax2", "|=y0=x1", "010 210"}, {"t", "//az1ay1ax0", "f", "000 000"},
		{"!=x0", "//az1ay1ax0", "f", "100 000"}, {"t", "/az2/az1ay1", "f", "000 010"}, {"t", "/az2/az1ay1", "!=z2", "000 002"},
		{"t", "@ts", "f", ""}, {"t", "~f", "f", ""}, {"t", "~=x2", "f", "200 200"}, {"t", "@<x2s", "f", "200 200"}, {"t", "/~=y1@=z0s", "f", "010 010"},
		{"t", "@<x2;ax+x1ay+y1", "=y2", "100 210"}, {"=xy", "@<x2;ax+x1ay+y1", "=y2", ""}, {"=z1", "@<x2/ax+x1ax0", "=y0", "011 211"},
	}
	for _, c := range cases {
		var from, to impl.State
		if c.want != "" {
			from, to = stateOf(c.want[:3]), stateOf(c.want[4:])
		}
		wantCounter(t, modelPredOf(c.pre), c.p, modelPredOf(c.post), from, to, c.want != "")
	}
}

// Every function that tells of triples is compared with the model.
func TestTriplesAgainstTheModel(t *testing.T) {
	t.Parallel()
	sets := someSets()
	for n, p := range append(programsToRun(), someLoops()...) {
		m := tableOf(modelTree(p))
		for i, post := range []string{noStates, everyState, sets[n%len(sets)], sets[len(sets)-1-n%36], modelImage(m, sets[n%len(sets)])} {
			free, total := modelFree(m, post), modelTotal(m, post)
			got, ok := impl.WeakestFree(p, post)
			wantText(t, "WeakestFree of "+p+" and "+post, got, ok, free, true)
			got, ok = impl.WeakestTotal(p, post)
			wantText(t, "WeakestTotal of "+p+" and "+post, got, ok, total, true)
			for _, pre := range []string{free, total, sets[(n+i)%len(sets)]} {
				if got := impl.TripleHolds(pre, p, post); got != modelWithin(pre, free) {
					t.Fatalf("TripleHolds(%q, %q, %q) = %v", pre, p, post, got)
				}
				if got := impl.TotalHolds(pre, p, post); got != modelWithin(pre, total) {
					t.Fatalf("TotalHolds(%q, %q, %q) = %v", pre, p, post, got)
				}
				from, to, ok := modelCounter(m, pre, post)
				wantCounter(t, pre, p, post, from, to, ok)
			}
		}
	}
}

func TestLoopKeeps(t *testing.T) {
	cases := []struct {
		test, body, inv string
		keeps           bool
	}{
		{"<x2", ";ax+x1ay+y1", "=xy", true}, {"<x2", ";ax+x1ay+y1", "=x0", false}, {"<x2", ";ax+x1ay+y1", "=x2", true}, {"t", ";ax+x1ay+y1", "=x2", false},
		{"<x2", "ax+x1", "<x2", false}, {"<x2", "ax+x1", "!=x0", true}, {"=x0", "ax+x1", "<x2", true}, {"t", "s", "=xy", true}, {"t", "/sax1", "=x0", false},
		{"t", "/sax1", "=x1", true}, {"t", "?=x0ay0ay1", "&=x0=y0", true}, {"t", "?=x0ay0ay1", "=y0", false},
		// The empty set and that of all states.
		{"t", "ax1", "f", true}, {"t", "ax1", "t", true}, {"t", "/ax1ax2", "f", true}, {"f", "ax1", "t", true}, {"<x2", "ax+x1", "f", true},
		// Tests that are never true, and bodies without final states.
		{"f", "ax1", "=x0", true}, {"f", "/ax1ax2", "=xy", true}, {"t", "@ts", "=x0", true}, {"t", "~f", "=x0", true}, {"t", ";ax1~f", "=x0", true}, {"t", ";ax1@ts", "=x0", true},
		// Bodies that may be blocked, or may never end.
		{"t", "/~fax1", "=x0", false}, {"t", "/@tsax1", "=x0", false}, {"t", "/~fay1", "=x0", true}, {"t", ";ax+x1~!=x2", "!=x2", true}, {"t", ";ax+x1~!=x2", "=x0", false},
		{"t", ";ax+x1@=x2s", "!=x2", true}, {"t", ";ax+x1@=x2s", "!=x1", false},
	}
	for _, c := range cases {
		if got := impl.LoopKeeps(c.test, c.body, modelPredOf(c.inv)); got != c.keeps {
			t.Errorf("LoopKeeps(%q, %q, %s) = %v", c.test, c.body, c.inv, got)
		}
	}
}

func TestProvesLoop(t *testing.T) {
	cases := []struct {
		pre, test, body, inv, post string
		proves                     bool
	}{
		{"&=x0=y0", "<x2", ";ax+x1ay+y1", "=xy", "=y2", true}, {"=xy", "<x2", ";ax+x1ay+y1", "=xy", "&=x2=y2", true},
		// In turn: a set that is not kept, one that does not have all states of the
		// first one, and one that leads elsewhere.
		{"=x0", "<x2", "ax+x1", "<x2", "t", false}, {"=x0", "<x2", ";ax+x1ay+y1", "=xy", "=y2", false}, {"=xy", "<x2", ";ax+x1ay+y1", "=xy", "=y1", false},
		{"=x0", "<x2", "ax+x1", "t", "=x2", true}, {"=x0", "<x2", "ax+x1", "t", "f", false}, {"t", "<x2", "ax+x1", "=x2", "=x2", false}, {"=x2", "<x2", "ax+x1", "=x2", "=x2", true},
		{"=x0", "<x2", "ax+x1", "=x0", "t", false}, {"=x0", "<x2", "ax+x1", "!=x1", "t", false}, {"=x0", "f", "ax+x1", "!=x1", "!=x1", true}, {"=x0", "f", "ax+x1", "!=x1", "=x0", false},
		// What lies in the last set need not be in the other one, and the other way
		// round as long as the test is true.
		{"=x2", "<x2", "s", "=x2", "t", true}, {"=x0", "<x2", "s", "<x2", "f", true}, {"t", "t", "s", "t", "f", true}, {"t", "t", "ax+x1", "t", "f", true}, {"t", "t", "~f", "t", "f", true},
		{"=x0", "=x0", "~f", "=x0", "f", true}, {"=x0", "=x0", "~f", "t", "f", false}, {"=x0", "=x0", "/ax1~f", "<x2", "=x1", true}, {"=x0", "=x0", "/ax1~f", "=x0", "t", false},
		{"f", "t", "s", "f", "f", true}, {"f", "f", "s", "f", "f", true}, {"f", "<x2", "ax+x1", "f", "f", true}, {"f", "f", "s", "t", "f", false}, {"t", "f", "s", "t", "t", true},
	}
	for _, c := range cases {
		got := impl.ProvesLoop(modelPredOf(c.pre), c.test, c.body, modelPredOf(c.inv), modelPredOf(c.post))
		if got != c.proves {
			t.Errorf("ProvesLoop(%s, %q, %q, %s, %s) = %v", c.pre, c.test, c.body, c.inv, c.post, got)
		}
	}
}

func TestInvariants(t *testing.T) {
	cases := []struct{ test, body, pre, strongest, post, weakest string }{
		{"<x2", ";ax+x1ay+y1", "&=x1=y0", "|&=x1=y0&=x2=y1", "=y2", "=xy"}, {"<x2", "ax+x1", "=x0", "t", "=x2", "t"}, {"<x2", "ax+x1", "=x1", "!=x0", "f", "f"},
		{"<x2", "ax+x1", "&=x0=y1", "=y1", "=y1", "=y1"}, {"=x0", "/ax1ax2", "=x0", "t", "!=x2", "=x1"}, {"=x0", "/sax1", "=x0", "<x2", "=x1", "<x2"},
		// The empty set and that of all states.
		{"<x2", "ax+x1", "f", "f", "t", "t"}, {"<x2", "ax+x1", "t", "t", "t", "t"}, {"t", "s", "f", "f", "f", "t"}, {"f", "s", "f", "f", "f", "f"},
		// Tests that are never true.
		{"f", "ax1", "=x0", "=x0", "=x0", "=x0"}, {"f", "@ts", "=xy", "=xy", "=xy", "=xy"}, {"f", "~f", "t", "t", "f", "f"},
		// Loops that never end.
		{"t", "s", "=xy", "=xy", "f", "t"}, {"t", "ax+x1", "=x0", "t", "f", "t"}, {"t", "ax1", "=x0", "<x2", "f", "t"}, {"t", "/ax1ax2", "=x0", "t", "=x0", "t"},
		{"=x0", "s", "=x0", "=x0", "=x1", "<x2"}, {"<x2", "ax-1x", "=x0", "<x2", "f", "<x2"}, {"<x2", "ax0", "=x1", "<x2", "=y0", "|<x2=y0"},
		// Bodies that are blocked, that never end, and that may do either.
		{"t", "~f", "=xy", "=xy", "f", "t"}, {"=x0", "~f", "t", "t", "=x1", "<x2"}, {"t", ";ax1~f", "=x0", "=x0", "f", "t"}, {"t", "@ts", "=x0", "=x0", "f", "t"},
		{"=x0", "@ts", "=x0", "=x0", "=x2", "!=x1"}, {"=x0", "/ax1~f", "=x0", "<x2", "=x2", "=x2"}, {"=x0", "/ax1@ts", "=x0", "<x2", "=x1", "<x2"},
		{"<x2", ";ax+x1~!=x2", "=x0", "<x2", "f", "<x2"}, {"t", ";ax+x1~!=x2", "=x0", "<x2", "f", "t"}, {"t", ";ax+x1~!=x2", "=x2", "t", "f", "t"},
		{"<x2", ";ax+x1@=x2s", "=x0", "<x2", "f", "<x2"},
		// Loops within: their turns are none of the loop.
		{"=y0", ";@<x2ax+x1ay1", "&=x0=y0", "|&=x0=y0&=x2=y1", "=x2", "|=y0=x2"}, {"<x2", "@<x2ax+x1", "=x0", "!=x1", "=x2", "t"},
	}
	for _, c := range cases {
		got, ok := impl.StrongestInvariant(modelPredOf(c.pre), c.test, c.body)
		wantText(t, "StrongestInvariant of "+c.pre+", "+c.test+", "+c.body, got, ok, modelPredOf(c.strongest), true)
		got, ok = impl.WeakestInvariant(c.test, c.body, modelPredOf(c.post))
		wantText(t, "WeakestInvariant of "+c.test+", "+c.body+", "+c.post, got, ok, modelPredOf(c.weakest), true)
	}
}

// wantTurns compares the turns from all states.
func wantTurns(t *testing.T, test, body string, want func(s impl.State) int) {
	t.Helper()
	var turns []int
	for _, s := range allStates() {
		turns = append(turns, want(s))
	}
	if got := impl.TurnsLeft(test, body); !slices.Equal(got, turns) {
		t.Errorf("TurnsLeft(%.210q, %.210q) = %v, want %v", test, body, got, turns)
	}
}

func TestTurnsLeft(t *testing.T) {
	// The turns from x = 0, 1 and 2, whatever the other values are.
	cases := []struct {
		test, body string
		turns      [3]int
	}{
		{"<x2", "ax+x1", [3]int{2, 1, 0}}, {"<x2", ";ax+x1ay+y1", [3]int{2, 1, 0}}, {"<x2", "ax2", [3]int{1, 1, 0}}, {"=x0", "ax+x1", [3]int{1, 0, 0}},
		{"!=x1", "ax+x1", [3]int{1, 0, 2}}, {"<x2", "@<x2ax+x1", [3]int{1, 1, 0}}, {"<x2", ";ax+x1ax-x1", [3]int{-1, -1, 0}},
		// Tests that are never true and that are always true.
		{"f", "s", [3]int{}}, {"f", "ax1", [3]int{}}, {"f", "~f", [3]int{}}, {"f", "@ts", [3]int{}},
		{"t", "s", [3]int{-1, -1, -1}}, {"t", "ax+x1", [3]int{-1, -1, -1}}, {"t", "ax1", [3]int{-1, -1, -1}}, {"t", "@ts", [3]int{-1, -1, -1}}, {"t", "/s~f", [3]int{-1, -1, -1}},
		// An execution that is blocked counts.
		{"t", "~f", [3]int{1, 1, 1}}, {"t", ";ax1~f", [3]int{1, 1, 1}}, {"=x0", "~f", [3]int{1, 0, 0}}, {"<x2", ";ax+x1~<x2", [3]int{2, 1, 0}}, {"t", ";ax+x1~!=x0", [3]int{3, 2, 1}},
		{"t", ";~=x0ax1", [3]int{2, 1, 1}}, {"t", ";~<x2ax+x1", [3]int{3, 2, 1}}, {"=x0", "/ax1~f", [3]int{1, 0, 0}}, {"<x2", "?=x0ax2/ax0~f", [3]int{1, 2, 0}},
		// The greatest number counts, and a run that never ends among others.
		{"<x2", "/ax+x1ax2", [3]int{2, 1, 0}}, {"<x2", "/ax2ax+x1", [3]int{2, 1, 0}}, {"<x2", "/ax+x1s", [3]int{-1, -1, 0}}, {"<x2", "?=x0/ax1ax2ax2", [3]int{2, 1, 0}},
		{"=x0", "/ax1@ts", [3]int{-1, 0, 0}}, {"=x0", "/~f@ts", [3]int{-1, 0, 0}}, {"<x2", ";ax+x1@=x2s", [3]int{-1, -1, 0}}, {"<x2", "?=x1@tsax2", [3]int{1, -1, 0}},
		{"<x2", "?=x1sax2", [3]int{1, -1, 0}}, {"t", "?=x1sax1", [3]int{-1, -1, -1}}, {"t", "?=x2~f/ax2ax+x1", [3]int{3, 2, 1}}, {"!=x2", "/ax+x1ax0", [3]int{-1, -1, 0}},
	}
	for _, c := range cases {
		wantTurns(t, c.test, c.body, func(s impl.State) int { return c.turns[s.X] })
	}
	// As many turns as there are states, if the last one is blocked.
	wantTurns(t, "t", countingBody, func(s impl.State) int { return 27 - numberOf(s) })
	wantTurns(t, "!&=x2&=y2=z2", countingBody, func(s impl.State) int { return 26 - numberOf(s) })
	wantTurns(t, "t", strings.Replace(countingBody, "~f", "az0", 1), func(s impl.State) int { return -1 })
}

func TestTurnsLeftAreNewEachTime(t *testing.T) {
	first := impl.TurnsLeft("<x2", "ax+x1")
	for i := range first {
		first[i] = 7
	}
	_ = append(first, 7, 7, 7)
	wantTurns(t, "<x2", "ax+x1", func(s impl.State) int { return 2 - s.X })
}

// checkLoop compares every function that tells of a loop with the model.
func checkLoop(t *testing.T, test, body string, sets []string) {
	t.Helper()
	l := modelLoopOf(test, body)
	wantTurns(t, test, body, l.turnsLeft)
	for i, set := range sets {
		strongest, weakest := l.from(set), l.weakest(set)
		got, ok := impl.StrongestInvariant(set, test, body)
		wantText(t, "StrongestInvariant of "+set+", "+test+", "+body, got, ok, strongest, true)
		got, ok = impl.WeakestInvariant(test, body, set)
		wantText(t, "WeakestInvariant of "+test+", "+body+", "+set, got, ok, weakest, true)
		other := sets[(i+1)%len(sets)]
		for _, inv := range []string{set, other, strongest, weakest, l.from(other), l.weakest(other)} {
			if got := impl.LoopKeeps(test, body, inv); got != l.keeps(inv) {
				t.Fatalf("LoopKeeps(%q, %q, %q) = %v", test, body, inv, got)
			}
			for _, pre := range []string{set, other} {
				for _, post := range []string{l.leaves(strongest), set} {
					if got := impl.ProvesLoop(pre, test, body, inv, post); got != l.proves(pre, inv, post) {
						t.Fatalf("ProvesLoop(%q, %q, %q, %q, %q) = %v", pre, test, body, inv, post, got)
					}
				}
			}
		}
	}
}

func TestLoopsAgainstTheModel(t *testing.T) {
	t.Parallel()
	sets := someSets()
	for n, l := range loopsToRun() {
		some := []string{[]string{noStates, everyState}[n%2], sets[n%len(sets)], sets[len(sets)-1-n%36]}
		checkLoop(t, l.test, l.body, some)
	}
}

// The test and the body each have a limit, and not both together.
func TestLoopsAtTheLimit(t *testing.T) {
	test := strings.Repeat("!", 197) + "=x2"
	bodies := append(fullPrograms(), strings.Repeat(";s", 97)+"ax+x1", strings.Repeat(";s", 98)+"~=x0", strings.Repeat("@<x2", 48)+";ax+x1~t")
	for n, body := range bodies {
		if len(test) != 200 || len(body) < 199 {
			t.Fatalf("the test has %d bytes, and the body %d", len(test), len(body))
		}
		sets := []string{noStates, everyState, modelPredOf("=x2"), single(n)}
		checkLoop(t, test, body, sets)
		checkNoLoop(t, "!"+test, body)
		checkNoLoop(t, test, ";s"+body)
	}
}

// Loops within loops take no longer than others.
func TestLoopsWithinManyLoops(t *testing.T) {
	t.Parallel()
	tests := []string{"<x2", "!=y0", "=xz", "!=xy", "<zy", "=x1"}
	bodies := []string{"ax+x1", ";ax+x1ay+yx", "/ax+x1az+z1", ";ax+x1~<x2", "?=x0ay1az+zx", "~=x0", "s"}
	for n := range len(tests) * len(bodies) {
		p := bodies[n%len(bodies)]
		for i := 0; len(p) <= 195; i++ {
			p = "@" + tests[(n+i*(1+n%3))%len(tests)] + p
		}
		m := tableOf(modelTree(p))
		for _, post := range []string{noStates, everyState, modelPredOf("=x2"), modelPredOf("=y0"), single(n % 27)} {
			got, ok := impl.WeakestFree(p, post)
			wantText(t, "WeakestFree of "+p+" and "+post, got, ok, modelFree(m, post), true)
			got, ok = impl.WeakestTotal(p, post)
			wantText(t, "WeakestTotal of "+p+" and "+post, got, ok, modelTotal(m, post), true)
		}
		checkLoop(t, tests[n%len(tests)], p, []string{noStates, single(n % 27)})
	}
}

// checkNoTriple checks every result that the chapter states for a text that is
// no program, or for one that is no set.
func checkNoTriple(t *testing.T, pre, p, post string) {
	t.Helper()
	if impl.TripleHolds(pre, p, post) || impl.TotalHolds(pre, p, post) {
		t.Errorf("TripleHolds or TotalHolds of %.40q, %.40q and %.40q is true", pre, p, post)
	}
	wantCounter(t, pre, p, post, impl.State{}, impl.State{}, false)
}

func checkNoCondition(t *testing.T, p, post string) {
	t.Helper()
	got, ok := impl.WeakestFree(p, post)
	wantText(t, "WeakestFree of an invalid argument", got, ok, "", false)
	got, ok = impl.WeakestTotal(p, post)
	wantText(t, "WeakestTotal of an invalid argument", got, ok, "", false)
	checkNoTriple(t, everyState, p, post)
	checkNoTriple(t, noStates, p, post)
}

// checkNoLoop checks every result that the chapter states for a text that is no
// test, or for one that is no program.
func checkNoLoop(t *testing.T, test, body string) {
	t.Helper()
	for _, set := range []string{noStates, everyState} {
		if impl.LoopKeeps(test, body, set) || impl.ProvesLoop(set, test, body, set, set) {
			t.Errorf("LoopKeeps or ProvesLoop of %.40q and %.40q is true", test, body)
		}
		got, ok := impl.StrongestInvariant(set, test, body)
		wantText(t, "StrongestInvariant of an invalid loop", got, ok, "", false)
		got, ok = impl.WeakestInvariant(test, body, set)
		wantText(t, "WeakestInvariant of an invalid loop", got, ok, "", false)
	}
	if turns := impl.TurnsLeft(test, body); len(turns) != 0 {
		t.Errorf("TurnsLeft(%.40q, %.40q) = %v", test, body, turns)
	}
}

func TestTriplesOfWhatIsNoProgram(t *testing.T) {
	for _, p := range textsThatAreNoPrograms() {
		for _, post := range []string{noStates, everyState, "", "t"} {
			checkNoCondition(t, p, post)
		}
		for _, test := range []string{"t", "f", "<x2", "x"} {
			checkNoLoop(t, test, p)
		}
	}
	for _, test := range brokenTests() {
		for _, body := range []string{"s", "~f", "ax+x1", "x"} {
			checkNoLoop(t, test, body)
		}
	}
}

func TestTriplesOfWhatIsNoSet(t *testing.T) {
	for _, bad := range brokenSets() {
		for _, p := range []string{"s", "~f", "@ts", "ax1", "x"} {
			checkNoCondition(t, p, bad)
			checkNoTriple(t, bad, p, everyState)
			checkNoTriple(t, bad, p, noStates)
			checkNoTriple(t, bad, p, bad)
		}
		for _, test := range []string{"t", "f", "x"} {
			if impl.LoopKeeps(test, "s", bad) || impl.ProvesLoop(bad, test, "s", everyState, everyState) || impl.ProvesLoop(noStates, test, "s", bad, everyState) || impl.ProvesLoop(noStates, test, "s", noStates, bad) || impl.ProvesLoop(bad, test, "s", bad, bad) {
				t.Errorf("LoopKeeps or ProvesLoop of %.40q is true", bad)
			}
			got, ok := impl.StrongestInvariant(bad, test, "s")
			wantText(t, "StrongestInvariant of what is no set", got, ok, "", false)
			got, ok = impl.WeakestInvariant(test, "s", bad)
			wantText(t, "WeakestInvariant of what is no set", got, ok, "", false)
		}
	}
}

// Promise 5: a triple holds exactly if the final states of its first set lie
// within the second one.
func TestTriplesHoldWhereFinalStatesLie(t *testing.T) {
	t.Parallel()
	sets := fewSets()
	for n, p := range append(fewStatements(), countingProgram(300)) {
		surely, _ := impl.SurelyEnds(p)
		for i, pre := range append(turned(sets, 5*n, 5), noStates, everyState) {
			finals, _ := impl.PostOf(p, pre)
			for _, post := range []string{finals, noStates, everyState, sets[(n+i)%len(sets)]} {
				holds := impl.TripleHolds(pre, p, post)
				if holds != impl.PredWithin(finals, post) {
					t.Fatalf("TripleHolds(%q, %q, %q) = %v, but PostOf is %q", pre, p, post, holds, finals)
				}
				if total := impl.TotalHolds(pre, p, post); total != (holds && impl.PredWithin(pre, surely)) {
					t.Fatalf("TotalHolds(%q, %q, %q) = %v, but TripleHolds is %v and SurelyEnds %q", pre, p, post, total, holds, surely)
				}
				wantFirstCounter(t, pre, p, post, holds)
			}
		}
	}
}

// wantFirstCounter checks that there is a counter exactly if a triple does not
// hold, and that it is the first one.
func wantFirstCounter(t *testing.T, pre, p, post string, holds bool) {
	t.Helper()
	from, to, ok := impl.CounterTriple(pre, p, post)
	if ok == holds {
		t.Fatalf("CounterTriple(%q, %q, %q) = %v, %v, %v, but TripleHolds is %v", pre, p, post, from, to, ok, holds)
	}
	if !ok {
		return
	}
	r, _ := impl.RunsFrom(p, from)
	outside, _ := impl.NotPred(post)
	wrong, _ := impl.AndPred(r.Finals, outside)
	first, _ := impl.FirstState(wrong)
	before := pre[:numberOf(from)] + noStates[numberOf(from):]
	if !impl.HasState(pre, from) || !impl.HasState(wrong, to) || first != to || !impl.TripleHolds(before, p, post) {
		t.Fatalf("CounterTriple(%q, %q, %q) = %v, %v", pre, p, post, from, to)
	}
}

// Promise 5: no set is weaker than the weakest one, and the conditions of
// programs in sequence are those of one within the other.
func TestWeakestIsWeakest(t *testing.T) {
	t.Parallel()
	sets := fewSets()
	programs := fewStatements()
	for n, p := range programs {
		post := sets[n%len(sets)]
		free, _ := impl.WeakestFree(p, post)
		total, _ := impl.WeakestTotal(p, post)
		for i, s := range allStates() {
			if impl.HasState(free, s) != impl.TripleHolds(single(i), p, post) || impl.HasState(total, s) != impl.TotalHolds(single(i), p, post) {
				t.Fatalf("the triples of %q and %q from %v do not tell what the weakest sets do: %q and %q", p, post, s, free, total)
			}
		}
		if !impl.TripleHolds(free, p, post) || !impl.TotalHolds(total, p, post) {
			t.Fatalf("the weakest sets of %q and %q do not lead there: %q and %q", p, post, free, total)
		}
		q := programs[(n*7+3)%len(programs)]
		joined, ok := impl.JoinPrograms(q, p)
		if !ok {
			continue
		}
		before, _ := impl.WeakestFree(q, free)
		got, ok := impl.WeakestFree(joined, post)
		wantText(t, "WeakestFree of "+joined+" and "+post, got, ok, before, true)
		before, _ = impl.WeakestTotal(q, total)
		got, ok = impl.WeakestTotal(joined, post)
		wantText(t, "WeakestTotal of "+joined+" and "+post, got, ok, before, true)
	}
}

// nearSets returns a set, and sets that differ from it in one state.
func nearSets(set string, some int) []string {
	list := []string{set}
	for i := some % 5; i < 27; i += 5 {
		other := map[byte]string{'0': "1", '1': "0"}[set[i]]
		list = append(list, set[:i]+other+set[i+1:])
	}
	return list
}

// Promise 5: a set proves a loop only between the strongest and the weakest
// invariant, and both prove it exactly if the triple of the loop holds.
func TestProofsLieBetweenTheInvariants(t *testing.T) {
	t.Parallel()
	sets := fewSets()
	proofs := 0
	for n, l := range loopsToRun() {
		p := "@" + l.test + l.body
		if len(p) > 200 {
			continue
		}
		leading := []string{sets[n%len(sets)], single(n % 27)}
		for i, pre := range leading {
			strongest, _ := impl.StrongestInvariant(pre, l.test, l.body)
			finals, _ := impl.PostOf(p, pre)
			for _, post := range []string{finals, leading[1-i], everyState} {
				weakest, _ := impl.WeakestInvariant(l.test, l.body, post)
				holds := impl.TripleHolds(pre, p, post)
				for _, inv := range []string{strongest, weakest} {
					if impl.ProvesLoop(pre, l.test, l.body, inv, post) != holds {
						t.Fatalf("%q proves %q from %q to %q: %v, but the triple holds: %v", inv, p, pre, post, !holds, holds)
					}
				}
				for _, inv := range append(append(nearSets(strongest, n), nearSets(weakest, n+i)...), turned(sets, n+7*i, 6)...) {
					if !impl.ProvesLoop(pre, l.test, l.body, inv, post) {
						continue
					}
					proofs++
					if !holds || !impl.PredWithin(strongest, inv) || !impl.PredWithin(inv, weakest) {
						t.Fatalf("%q proves %q from %q to %q, but the invariants are %q and %q, and the triple holds: %v", inv, p, pre, post, strongest, weakest, holds)
					}
				}
			}
		}
	}
	if proofs < 10000 {
		t.Errorf("there are only %d proofs", proofs)
	}
}

// Promise 5: the strongest invariant is the least set that is kept, and what the
// test is looked at in; the weakest one is made of all sets that are kept.
func TestInvariantsAreLeastAndGreatest(t *testing.T) {
	t.Parallel()
	sets := fewSets()
	for n, l := range loopsToRun() {
		pre, post := sets[n%len(sets)], sets[(n+5)%len(sets)]
		strongest, _ := impl.StrongestInvariant(pre, l.test, l.body)
		weakest, _ := impl.WeakestInvariant(l.test, l.body, post)
		if !impl.LoopKeeps(l.test, l.body, strongest) || !impl.LoopKeeps(l.test, l.body, weakest) || !impl.PredWithin(pre, strongest) {
			t.Fatalf("the loop of %q and %q does not keep %q or %q", l.test, l.body, strongest, weakest)
		}
		heads, greatest := noStates, noStates
		for i, s := range allStates() {
			if pre[i] == '1' {
				more, _ := impl.HeadStates(l.test, l.body, s)
				heads, _ = impl.OrPred(heads, more)
			}
			least, _ := impl.StrongestInvariant(single(i), l.test, l.body)
			if impl.ProvesLoop(single(i), l.test, l.body, least, post) {
				greatest, _ = impl.OrPred(greatest, least)
			}
		}
		if strongest != heads || weakest != greatest {
			t.Fatalf("the invariants of %q and %q are %q and %q, want %q and %q", l.test, l.body, strongest, weakest, heads, greatest)
		}
	}
}

// Turns are left without end exactly where the loop may never end, and none
// where its test is false.
func TestTurnsTellWhatRunsTell(t *testing.T) {
	for _, l := range loopsToRun() {
		p := "@" + l.test + l.body
		if len(p) > 200 {
			continue
		}
		loops, _ := impl.MayLoop(p)
		goesOn, _ := impl.PredOf(l.test)
		for i, turns := range impl.TurnsLeft(l.test, l.body) {
			if (turns == -1) != (loops[i] == '1') || (turns == 0) != (goesOn[i] == '0') || turns < -1 || turns > 27 {
				t.Fatalf("TurnsLeft(%q, %q) has %d at %d", l.test, l.body, turns, i)
			}
		}
	}
}

// Without choices, the turns of the only run can be counted.
func TestTurnsOfTheOnlyRun(t *testing.T) {
	for _, l := range loopsToRun() {
		if strings.Contains(l.body, "/") || impl.SizeOf(l.body) > 11 {
			continue
		}
		wantTurns(t, l.test, l.body, func(s impl.State) int { return countTurns(l, s) })
	}
}

func countTurns(l testedLoop, s impl.State) int {
	for turns := range 28 {
		goesOn, _ := impl.EvalTest(l.test, s)
		if !goesOn {
			return turns
		}
		to, _, code := impl.ReplayRun(l.body, s, "", 300)
		switch code {
		case impl.RunBlocked:
			return turns + 1
		case impl.RunBusy:
			return -1
		}
		s = to
	}
	return -1
}
