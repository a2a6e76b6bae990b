package tests

import (
	"strings"
	"testing"

	"loop.example/productprograms/impl"
)

func TestPairsOfPrograms(t *testing.T) {
	t.Parallel()
	cases := []struct {
		p, q, first, kind string
		refines, refined  bool
	}{
		{"ax+y1", "ax+1y", "000", "none", true, true}, {"s", "s", "000", "none", true, true}, {"@<x2ax+x1", "ax2", "000", "none", true, true}, {"axx", "s", "000", "none", true, true}, {"/ax0ax1", "/ax1ax0", "000", "none", true, true}, {"?=x0ax1ax2", "?!=x0ax2ax1", "000", "none", true, true},
		{"ax1", "ax2", "000", "finals", false, false}, {"s", "ax0", "100", "finals", false, false}, {"s", "ay2", "000", "finals", false, false}, {"s", "az1", "000", "finals", false, false}, {"ax1", "?=y2ax2ax1", "020", "finals", false, false},
		// Of choices, the ends of one may be among those of the other one.
		{"ax1", "/ax0ax1", "000", "finals", true, false}, {"/ax0ax1", "/ax1ax2", "000", "finals", false, false}, {"/ax0ax1", "/ax0/ax1ax2", "000", "finals", true, false}, {"s", "/sax1", "000", "finals", true, false}, {"ax1", "/sax1", "000", "finals", true, false}, {"/ax1~f", "/ax0ax1", "000", "finals", false, false}, {"/ax0/ax1~f", "/ax0ax1", "000", "blocks", false, true},
		// From some states, one refines the other one, and from some the other way.
		{"?=x0s/sax1", "?=x0/sax1s", "000", "finals", false, false}, {"?=x0~f/s~f", "?=x0/s~fs", "000", "finals", false, false},
		// One may never end, or be blocked, and the other one not.
		{"s", "/s@ts", "000", "loops", true, false}, {"s", "/s~f", "000", "blocks", true, false}, {"s", "/s/~f@ts", "000", "loops", true, false}, {"/s~f", "/s@ts", "000", "loops", false, false}, {"/s~f", "/s/~f@ts", "000", "loops", true, false}, {"/s@ts", "/s/~f@ts", "000", "blocks", true, false}, {"@<x2/sax+x1", "ax2", "000", "loops", false, true}, {"/s@=x1s", "s", "100", "loops", false, true}, {"/s~!=x1", "s", "100", "blocks", false, true},
		// There are no ends.
		{"@ts", "~f", "000", "loops", false, false}, {"@ts", ";ax1@ts", "000", "none", true, true}, {"~f", ";ax1~f", "000", "none", true, true}, {"~f", "/~f@ts", "000", "loops", true, false}, {"@ts", "/~f@ts", "000", "blocks", true, false}, {"~f", "s", "000", "finals", false, false}, {"@ts", "s", "000", "finals", false, false}, {"~f", "/s~f", "000", "finals", true, false}, {"@ts", "/s@ts", "000", "finals", true, false}, {"~=x1", "~=x2", "100", "finals", false, false}, {"@=x1s", "?=x1~fs", "100", "loops", false, false}, {"@=x1s", "@=x2s", "100", "finals", false, false},
		// What differs first is told, although more does, or else in a later state.
		{"s", "?=x0/s~f?=x1/s@tsax1", "000", "blocks", false, false}, {"s", "?=x0/s@ts?=x1/s~fax1", "000", "loops", false, false}, {"s", "?=x0/s~f?=x1/sax2/s@ts", "000", "blocks", true, false}, {"s", "/ax1/~f@ts", "000", "finals", false, false}, {"s", "?=z2/ax1~f?=y1/s@ts?=x2/s~fs", "200", "blocks", false, false}, {"s", "?=z2/s~f?=y1/s@ts?=x2s~t", "010", "loops", true, false},
	}
	for _, c := range cases {
		wantDifference(t, c.p, c.q, stateOf(c.first), c.kind)
		wantDifference(t, c.q, c.p, stateOf(c.first), c.kind)
		wantTruth(t, "SamePrograms of "+c.p+" and "+c.q, impl.SamePrograms(c.p, c.q), c.kind == "none")
		wantTruth(t, "SamePrograms of "+c.q+" and "+c.p, impl.SamePrograms(c.q, c.p), c.kind == "none")
		wantTruth(t, "RefinesProgram of "+c.p+" and "+c.q, impl.RefinesProgram(c.p, c.q), c.refines)
		wantTruth(t, "RefinesProgram of "+c.q+" and "+c.p, impl.RefinesProgram(c.q, c.p), c.refined)
	}
}

// Programs differ in one thing alone, from the first state, the last one, or
// several.
func TestProgramsThatDifferInOneThing(t *testing.T) {
	t.Parallel()
	more := map[string]string{"finals": "az+z1", "loops": "@ts", "blocks": "~f"}
	programs := []struct{ p, kinds string }{
		{"s", "finals loops blocks"}, {"ay+y1", "finals loops blocks"}, {"/sax+x1", "finals loops blocks"}, {"@<x2ax+x1", "finals loops blocks"},
		{"/ax0@ts", "finals blocks"}, {"@ts", "finals blocks"}, {"/ax0~f", "finals loops"}, {"~f", "finals loops"}, {"/s/~f@ts", "finals"}, {"/~f@ts", "finals"},
	}
	for _, at := range placesOfChanges() {
		for _, c := range programs {
			for _, kind := range strings.Fields(c.kinds) {
				p, q := c.p, changedAt(at.test, c.p, "/"+c.p+more[kind])
				wantDifference(t, p, q, stateOf(at.first), kind)
				wantDifference(t, q, p, stateOf(at.first), kind)
				wantTruth(t, "SamePrograms of "+p+" and "+q, impl.SamePrograms(p, q), false)
				wantTruth(t, "SamePrograms of "+q+" and "+p, impl.SamePrograms(q, p), false)
				wantTruth(t, "RefinesProgram of "+p+" and "+q, impl.RefinesProgram(p, q), true)
				wantTruth(t, "RefinesProgram of "+q+" and "+p, impl.RefinesProgram(q, p), false)
			}
		}
	}
}

// From each state alone.
func TestProgramsThatDifferFromOneState(t *testing.T) {
	t.Parallel()
	digits := "012"
	for i, s := range allStates() {
		test := "&=x" + digits[s.X:s.X+1] + "&=y" + digits[s.Y:s.Y+1] + "=z" + digits[s.Z:s.Z+1]
		for more, kind := range map[string]string{"ax+x1": "finals", "@ts": "loops", "~f": "blocks"} {
			q := changedAt(test, "s", "/s"+more)
			wantDifference(t, "s", q, s, kind)
			wantDifference(t, q, "s", s, kind)
			wantTruth(t, "RefinesProgram of s and "+q, impl.RefinesProgram("s", q), true)
			wantTruth(t, "RefinesProgram of "+q+" and s", impl.RefinesProgram(q, "s"), false)
			if kind == "finals" {
				wantTruth(t, "DeterministicProgram of "+q, impl.DeterministicProgram(q), false)
				wantLetters(t, "AffectedVars of s and "+q, impl.AffectedVars("s", q), "x")
			}
			// One more difference behind it changes nothing.
			if last := allStates()[26]; i < 26 {
				later := changedAt("&=x2&=y2=z2", q, "/ay0/~f@ts")
				wantDifference(t, "s", later, s, kind)
				wantDifference(t, q, later, last, "finals")
			}
		}
	}
}

func TestSameOn(t *testing.T) {
	t.Parallel()
	cases := []struct {
		p, q, in, out string
		want          bool
	}{
		{"ax+y1", "ax+1y", "y", "x", true}, {"ax+y1", "ax+1y", "y", "z", false}, {"ax+y1", "ax+1y", "z", "x", false}, {"ax+y1", "ax+1y", "yz", "xyz", true}, {"ax+y1", "ax+1y", "y", "xy", true}, {"ax+y1", "ax+1y", "y", "yz", false}, {"ax+y1", "ax+2y", "xyz", "x", false}, {"ax+y1", "ax+2y", "xyz", "yz", true},
		// Variables that no program writes or reads.
		{"s", "s", "z", "z", true}, {"s", "s", "xy", "z", false}, {"ax1", "ax2", "z", "z", true}, {"ax1", "ax2", "yz", "yz", true}, {"ax1", "ax2", "yz", "xyz", false}, {"ax1", "ax1", "yz", "xyz", true}, {"axy", "axy", "y", "xy", true}, {"axy", "axy", "x", "x", false}, {"s", "ax1", "x", "x", false},
		// No letters, and all letters.
		{"ax1", "ax2", "", "", true}, {"s", "s", "", "", true}, {"s", "s", "", "x", false}, {"ax1", "ax1", "", "x", true}, {"ax1", "ax2", "", "x", false}, {"ax1", "ax1", "", "xy", false}, {";ax1;ay2az0", ";az0;ay2ax1", "", "xyz", true}, {"s", "s", "xyz", "xyz", true}, {"ax1", "ay1", "xyz", "", true}, {"s", "axx", "xyz", "xyz", true}, {"s", "ax1", "xyz", "xyz", false}, {"s", "s", "xyz", "", true},
		// Choices are pairs of any ends, of one program with itself, too.
		{"/ax0ax1", "/ax0ax1", "xyz", "x", false}, {"/ax0ax1", "/ax0ax1", "xyz", "yz", true}, {"/ax1ax1", "ax1", "", "x", true}, {"/ax0ay0", "/ax0ay0", "xyz", "z", true}, {"/ax0ay0", "/ax0ay0", "xyz", "y", false}, {"?=x0/ay0ay1ay2", "?=x0/ay0ay1ay2", "x", "y", false}, {"~=x1", "s", "x", "x", true}, {"~=x1", "s", "y", "x", false}, {"~=x1", "~=x1", "", "x", true},
		// Without ends, all is true.
		{"~f", "s", "", "xyz", true}, {"s", "@ts", "", "xyz", true}, {"@ts", "~f", "", "xyz", true}, {"@ts", "@ts", "xyz", "xyz", true}, {"/~f@ts", "/ax0ax1", "", "xyz", true}, {";~=x1~=x2", "ax0", "y", "x", true}, {"~=x1", "~=x2", "x", "xyz", true}, {"@=x1s", "@!=x1s", "xyz", "xyz", true}, {"@=x1s", "@!=x1s", "y", "x", false},
		{"?=x0ay1ay2", "?!=x0ay2ay1", "x", "y", true}, {"?=x0ay1ay2", "?!=x0ay2ay1", "yz", "y", false}, {"@<x2ax+x1", "ax2", "", "x", true}, {"@<x2ax+x1", "ax2", "yz", "xyz", true}, {"@<x2;ax+x1ay+y1", "s", "xyz", "z", true}, {"@<x2;ax+x1ay+y1", ";ay-+y2xax2", "xyz", "xyz", true}, {"az+xy", "az+xy", "xy", "z", true}, {"az+xy", "az+xy", "x", "z", false}, {"az+xy", "az+xy", "xz", "z", false},
	}
	for _, c := range cases {
		call := c.p + ", " + c.q + ", " + c.in + ", " + c.out
		wantTruth(t, "SameOn of "+call, impl.SameOn(c.p, c.q, c.in, c.out), c.want)
		wantTruth(t, "SameOn, exchanged, of "+call, impl.SameOn(c.q, c.p, c.in, c.out), c.want)
		if changeOf(c.p, c.q).sameOn(c.in, c.out) != c.want {
			t.Errorf("the model of SameOn of %s is wrong", call)
		}
	}
}

func TestAffectedVars(t *testing.T) {
	t.Parallel()
	cases := []struct{ p, q, want string }{
		{"s", "s", ""}, {"ax1", "ax2", "x"}, {"s", "ay1", "y"}, {"s", "az-z1", "z"}, {"s", ";ay1az1", "yz"}, {"ax1", "ay1", "xy"}, {"ax1", "az1", "xz"}, {"s", ";az1;ay2ax0", "xyz"}, {"ax+y1", "ax+1y", ""}, {"axx", "s", ""}, {"ay0", "ay-yy", ""}, {"@<x2ax+x1", "ax2", ""}, {"@<x2;ax+x1ay+y1", "ax2", "y"},
		// From one state alone.
		{"s", "?&=x2&=y2=z2ax0s", "x"}, {"s", "?&=x0&=y0=z0ay1s", "y"}, {"?=x1?=y2az0ss", "s", "z"},
		// A program with choices may end differently by itself.
		{"/ax0ax1", "/ax0ax1", "x"}, {"/ax0ax1", "/ax1ax0", "x"}, {"/sax+x1", "s", "x"}, {"/ax0az1", "/ax0az1", "xz"}, {"/ay1ay1", "ay1", ""}, {";/ax0ax1;ay+x1ax2", "s", "xy"}, {";/ax0ax1ax2", "ax2", ""}, {"?=z2/ax0ax1s", "s", "x"},
		// Whether they end at all is none of it.
		{"~f", "ax1", ""}, {"ax1", "@ts", ""}, {"@ts", "~f", ""}, {"~f", "~f", ""}, {"/s~f", "/s@ts", ""}, {"/ax1~f", "s", "x"}, {"~=x0", "ax0", ""}, {"~=x0", "ax1", "x"}, {"~=x0", "~=x1", ""}, {"@=x1s", "?=x1ax2s", ""}, {"@=x1s", "?=x0ay0s", "y"}, {";~=x1~=x2", "/ax0ay0", ""},
	}
	for _, c := range cases {
		wantLetters(t, "AffectedVars of "+c.p+" and "+c.q, impl.AffectedVars(c.p, c.q), c.want)
		wantLetters(t, "AffectedVars of "+c.q+" and "+c.p, impl.AffectedVars(c.q, c.p), c.want)
	}
}

func TestDependsOn(t *testing.T) {
	t.Parallel()
	cases := []struct{ p, x, y, z string }{
		{"s", "x", "y", "z"}, {"ax+y1", "y", "y", "z"}, {"ax0", "", "y", "z"}, {"axx", "x", "y", "z"}, {"?=z0axyax0", "yz", "y", "z"}, {"ax*yz", "yz", "y", "z"}, {"ax+x+yz", "xyz", "y", "z"}, {"ax-xx", "", "y", "z"}, {"ax+y-zz", "y", "y", "z"}, {";axyayx", "y", "y", "z"}, {";azx;axyayz", "y", "x", "x"}, {";ax1;ay2az0", "", "", ""},
		{"@<x2ax+x1", "", "y", "z"}, {"@<x2;ax+x1ay+y1", "", "xy", "z"}, {"@=z1s", "xz", "yz", "z"}, {"?=y0ax1ax1", "", "y", "z"}, {"?=y0ax1ax2", "y", "y", "z"}, {"?&=x0&=y1=z2az0s", "x", "y", "xyz"},
		// It may depend on a variable from one state alone, and on two values of it.
		{"?&=x2&=y2=z2az0s", "x", "y", "xyz"}, {"?=x1az0az1", "x", "y", "x"}, {"?<x2az0az1", "x", "y", "x"}, {"?=x0az0az1", "x", "y", "x"},
		// Sets of values count, and not which choices there are.
		{"/ax0ax1", "", "y", "z"}, {"/sax+x1", "x", "y", "z"}, {"/s/ax+x1ax+x2", "", "y", "z"}, {"?=y0/ax0ax1/ax1ax0", "", "y", "z"}, {"?=y0/ax0ax1ax0", "y", "y", "z"}, {"?=y0/ax0ax1/ax0/ax1ax2", "y", "y", "z"}, {"/axyaxz", "yz", "y", "z"}, {";/ax0/ax1ax2az+zx", "", "y", ""}, {"?=y0/az0ax1/az1ax1", "x", "y", "yz"},
		// No ends, no values.
		{"~f", "", "", ""}, {"@ts", "", "", ""}, {"/~f@tax1", "", "", ""}, {";~=x0~=x1", "", "", ""}, {"~=x1", "x", "xy", "xz"}, {"~=y1", "xy", "y", "yz"}, {";~=x1ax0", "x", "xy", "xz"}, {";~=x1;ax0;ay0az0", "x", "x", "x"}, {"/s~f", "x", "y", "z"}, {"/ax0~=y1", "xy", "y", "z"}, {"/s@=x1s", "x", "y", "z"}, {";@!=x2sax1", "x", "xy", "xz"},
	}
	for _, c := range cases {
		for out, want := range map[string]string{"x": c.x, "y": c.y, "z": c.z} {
			wantLetters(t, "DependsOn of "+c.p+", "+out, impl.DependsOn(c.p, out), want)
			if got := modelDepends(tableOfText(c.p), out); got != want {
				t.Errorf("the model of %q depends on %q for %s, and should on %q", c.p, got, out, want)
			}
		}
	}
}

func TestCommutePrograms(t *testing.T) {
	t.Parallel()
	cases := []struct {
		p, q string
		want bool
	}{
		{"s", "s", true}, {"ax1", "ay2", true}, {"ax1", "ax2", false}, {"ax1", "ax1", true}, {"ax+x1", "ax+x2", true}, {"ax+x1", "ax*x2", false}, {"axy", "ayx", false}, {"ax+x1", "ayx", false}, {"ax+x1", "ay+y1", true}, {"s", "/ax0ax1", true}, {"/ax0ax1", "/ax1ax0", true}, {"/ax0ax1", "/ay1ay0", true}, {"/ax0ax1", "/ax1ax2", false}, {"/sax+x1", "/sax+x2", true},
		// It never ends, or is blocked, in one order only, and in both.
		{"~f", "s", true}, {"@ts", "ax1", true}, {"~f", "ax1", true}, {"~f", "@ts", false}, {"~f", "~f", true}, {"@ts", "@ts", true}, {"~=x1", "~=y1", true}, {"~=x1", "~=x2", true}, {"~=x1", "ax1", false}, {"@=x1s", "ax1", false}, {"@=x1s", "ay1", true}, {"@=x1s", "~!=x1", false}, {"@=x1s", "~=y1", false}, {"/s~f", "/s@ts", true}, {"/~f@ts", "/@ts~f", true}, {"/s~f", "ax1", true}, {"/s@ts", "@ts", true}, {"/s~f", "@ts", false}, {"/s@ts", "~f", false}, {"@<x2ax+x1", "@<x2/sax+x1", false}, {"@<x2/sax+x1", "/s@ts", true}, {"@<x2/sax+x1", "/s~f", true}, {"@<x2/sax+x1", "~f", false}, {"@<x2/sax+x1", "ax2", false},
	}
	for _, c := range cases {
		wantTruth(t, "CommutePrograms of "+c.p+" and "+c.q, impl.CommutePrograms(c.p, c.q), c.want)
		wantTruth(t, "CommutePrograms of "+c.q+" and "+c.p, impl.CommutePrograms(c.q, c.p), c.want)
		if got := tableInSequence(c.p, c.q) == tableInSequence(c.q, c.p); got != c.want {
			t.Errorf("the model of %q and %q is wrong", c.p, c.q)
		}
	}
}

func TestIdempotentAndDeterministicPrograms(t *testing.T) {
	t.Parallel()
	cases := []struct {
		p                         string
		idempotent, deterministic bool
	}{
		{"s", true, true}, {"ax1", true, true}, {"ax+x1", false, true}, {"axy", true, true}, {";axyayx", true, true}, {"ax+yx", false, true}, {"@<x2ax+x1", true, true}, {"?=x0ax1s", true, true}, {"?=x0ax1ax2", false, true}, {"?=x0ay1az2", true, true},
		{"/ax0ax1", true, false}, {"/sax+x1", false, false}, {"/s/ax+x1ax+x2", true, false}, {"/sax1", true, false}, {"?=z2/ax0ax1s", true, false}, {"?&=x2&=y2=z2/sax+x1s", true, false}, {"?&=x2&=y2=z2ax0?=x0ax1s", false, true}, {"?&=x0&=y0=z0/sax+x1s", true, false}, {"/ax0ay0", false, false}, {"/s;az0/az1az2", true, false},
		// There is a run that does not end after the first time, and only then.
		{"~=x1", true, true}, {"~f", true, true}, {"@ts", true, true}, {"/~f@ts", true, true}, {"@=x1s", true, true}, {"?=x0ax1~f", false, true}, {"?=x0ax1@ts", false, true}, {"?=x0ax1?=x1ax2~f", false, true}, {"/s~f", true, true}, {"/s@ts", true, true}, {";ax+x1~=x1", false, true}, {";~=x1ax0", false, true}, {"?=x0/ax1~fs", true, true}, {"?=x0ax1?=x1/s~fs", false, true}, {"?=x0ax1?=x1/s@tss", false, true}, {"?=x0/s~fs", true, true}, {"?=x0s?=x1/ax0~f?=x2/sax1s", false, false},
		// Choices whose runs end in one state.
		{"/ax1ax1", true, true}, {"/ax1;ax0ax1", true, true}, {"/~=x0~=x1", true, true}, {"/~=x0ax0", true, true}, {"/ax+x1ax-x2", false, true}, {"@<x2/sax+x1", true, true}, {"@<x2/ax+x1ax2", true, true}, {"@!=x2/ax1ax2", true, true}, {";/ax0ax1ax2", true, true}, {";/ax0ax1~=x1", true, true}, {";/ax0ax1?=x0axys", true, false}, {"@=x0/ax1ax2", true, false}, {";/ax0/ax1ax2@=x1s", true, false}, {";/ax0ax1@=x1s", true, true}, {";/ax0ax1axy", true, true},
	}
	for _, c := range cases {
		wantTruth(t, "IdempotentProgram of "+c.p, impl.IdempotentProgram(c.p), c.idempotent)
		wantTruth(t, "DeterministicProgram of "+c.p, impl.DeterministicProgram(c.p), c.deterministic)
		checkProgramAlone(t, c.p)
	}
}

func TestUndoesProgram(t *testing.T) {
	t.Parallel()
	cases := []struct {
		p, q string
		want bool
	}{
		{"s", "s", true}, {"ax+xy", "ax-xy", true}, {"ax-xy", "ax+xy", true}, {"ax+x1", "ax+x2", true}, {"ax+x1", "ax+x1", false}, {"ax1", "s", false}, {"s", "ax1", false}, {"s", "axx", true}, {"ax*x2", "ax*x2", true}, {"ax*xy", "ax*xy", false}, {"?=x0ax1?=x1ax0s", "?=x0ax1?=x1ax0s", true}, {";ax+xy;ay+xyax+xy", ";ax-xy;ay-yxax-xy", true}, {";ax+xyay+xy", ";ay-yxax-xy", true}, {";ax+xyay+xy", ";ax-xyay-yx", false},
		// All runs count.
		{"/ss", "s", true}, {"/sax+x1", "s", false}, {"/ax+x1ax-x2", "ax-x1", true}, {"/ax+x1ax+x2", "ax-x1", false}, {"ax+x1", "/ax-x1ax+x2", true}, {"ax+x1", "/ax-x1s", false}, {"s", "/s~f", false}, {"/s@ts", "s", false}, {"s", "?&=x2&=y2=z2/s~fs", false}, {"?&=x0&=y0=z0/s@tss", "s", false}, {"~f", "s", false}, {"@ts", "s", false}, {"s", "~f", false}, {"s", "@ts", false}, {"~f", "~f", false}, {"@ts", "~f", false}, {"~=x1", "s", false},
		{"?=x2ax0ax+x1", "?=x0ax2ax-x1", true}, {"?=x1ax2s", "?=x2ax1s", false}, {"ax2", "@<x2s", false},
		// What would not end is never come to.
		{"?=x1ax2?=x2ax1s", ";?=x1ax2?=x2ax1s?=x0@=x1s~!=x0", true}, {"?<x2ax+x1ax0", "?=x0ax2?=x1ax0?=x2ax1~f", true},
	}
	for _, c := range cases {
		wantTruth(t, "UndoesProgram of "+c.p+" and "+c.q, impl.UndoesProgram(c.p, c.q), c.want)
		// As no two states can end in the same one, each program undoes the other one.
		wantTruth(t, "UndoesProgram of "+c.q+" and "+c.p, impl.UndoesProgram(c.q, c.p), c.want)
		if got := tableInSequence(c.p, c.q) == tableOfText("s"); got != c.want {
			t.Errorf("the model of %q and %q is wrong", c.p, c.q)
		}
	}
}

func TestMonotoneIn(t *testing.T) {
	t.Parallel()
	cases := []struct {
		p, v, w string
		want    bool
	}{
		// The same variable twice.
		{"s", "x", "x", true}, {"ax+x1", "x", "x", false}, {"ax*x2", "x", "x", false}, {"ax0", "x", "x", true}, {"axy", "x", "x", true}, {"?=x2s?=x0ax1ax2", "x", "x", true}, {"@<x2ax+x1", "x", "x", true}, {"?=x1ax0s", "x", "x", true}, {"?=x1ax2ax1", "x", "x", false}, {"?=x0ax1ax0", "x", "x", false}, {"?=x2ax1?=x1ax2s", "x", "x", false}, {"ay+y1", "y", "y", false}, {"?=z0az2az1", "z", "z", false}, {"?=z2s?=z0az1az2", "z", "z", true},
		// Two variables.
		{"ay*x1", "x", "y", true}, {"ay*x1", "y", "x", true}, {"ay*x1", "x", "x", true}, {"s", "x", "y", true}, {"s", "x", "z", true}, {"ax0", "y", "x", true}, {"ay-2x", "x", "y", false}, {"ay+x1", "x", "y", false}, {"axz", "z", "x", true}, {"axz", "y", "x", true}, {"ax-0z", "z", "x", false}, {"?=y0ax0ax1", "y", "x", true}, {"?=y0ax1ax0", "y", "x", false}, {"?=y2ax0ax1", "y", "x", false}, {"?<y2axyax2", "y", "x", true}, {"az*xy", "x", "z", false}, {"?=x0az0?=y0az0az1", "x", "z", true},
		// The other variables are as they are: from one of their values alone.
		{"?&=y2=z2ax+x1s", "x", "x", false}, {"?&=y0=z0ax+x1s", "x", "x", false}, {"axy", "z", "x", true}, {"?=y2?=z0ax1ax0s", "z", "x", false}, {"?=y0az-2xazx", "x", "z", false},
		// All ends count, also those from one and the same state.
		{"/ax0ax1", "x", "x", false}, {"/ax0ax1", "y", "x", false}, {"/ax0ax1", "x", "y", true}, {"/ax1ax1", "x", "x", true}, {"?&=x2&=y2=z2/ax1ax2s", "y", "x", false}, {"?=x0/ay0ay1ay2", "x", "y", false}, {"?=x0/ay0~fay2", "x", "y", true}, {"?=x0ax0/ax1ax2", "x", "x", false},
		// Without ends, nothing is greater.
		{"~f", "x", "x", true}, {"@ts", "x", "y", true}, {"~=x1", "x", "x", true}, {";~=x1ax0", "x", "x", true}, {";~=x2ax0", "x", "x", true}, {"?=x0ax2?=x1~fax1", "x", "x", false}, {"?=x0ax2~f", "x", "x", true}, {"?=x2ax0@ts", "x", "x", true}, {";~<x2?=x1ax0ax1", "x", "x", false}, {"/~f@ts", "z", "z", true},
	}
	for _, c := range cases {
		wantTruth(t, "MonotoneIn of "+c.p+", "+c.v+", "+c.w, impl.MonotoneIn(c.p, c.v, c.w), c.want)
		if modelMonotone(tableOfText(c.p), c.v, c.w) != c.want {
			t.Errorf("the model of MonotoneIn of %v is wrong", c)
		}
	}
}

func TestSymmetricIn(t *testing.T) {
	t.Parallel()
	cases := []struct {
		p          string
		xy, xz, yz bool
	}{
		{"s", true, true, true}, {"az+xy", true, false, false}, {"ax1", false, false, true}, {"ay1", false, true, false}, {"az1", true, false, false}, {"ax*yz", false, false, true}, {"az-xy", false, false, false}, {";ax1ay1", true, false, false}, {";ax1;ay1az1", true, true, true}, {";az+xy;axzayz", true, false, false}, {";az1ax1", false, true, false}, {";axyayx", false, false, false}, {";az2;ax2ay2", true, true, true}, {"/ax1ay1", true, false, false}, {"/ax1/az1ay1", true, true, true}, {"/axyayx", true, false, false},
		{"?<xysaz0", false, false, false}, {"?=xysaz0", true, false, false}, {"?=xyaz0az0", true, false, false}, {"@!=xyax+x1", false, false, false},
		// Without ends, or with ends that are not all.
		{"~f", true, true, true}, {"@ts", true, true, true}, {"/~f@ts", true, true, true}, {"~=x1", false, false, true}, {"~=xy", true, false, false}, {"@=x1s", false, false, true}, {"@=xzs", false, true, false}, {"/s~=x1", false, false, true}, {"/s@=z2s", true, false, false}, {"?=x1~f?=y1~fs", true, false, false}, {"?=x1~f?=y1@tss", false, false, false}, {";~=x0~=x1", true, true, true}, {";@=x1s~f", false, false, true},
	}
	for _, c := range cases {
		for vars, want := range map[string]bool{"xy": c.xy, "xz": c.xz, "yz": c.yz} {
			v, w := vars[:1], vars[1:]
			wantTruth(t, "SymmetricIn of "+c.p+", "+v+", "+w, impl.SymmetricIn(c.p, v, w), want)
			wantTruth(t, "SymmetricIn of "+c.p+", "+w+", "+v, impl.SymmetricIn(c.p, w, v), want)
			if modelSymmetric(c.p, v, w) != want {
				t.Errorf("the model of SymmetricIn of %q, %s is wrong", c.p, vars)
			}
		}
	}
	// A variable is always treated like itself.
	for _, p := range someOfEveryForm(3) {
		for _, v := range letters() {
			wantTruth(t, "SymmetricIn of "+p+", "+v+", "+v, impl.SymmetricIn(p, v, v), true)
		}
	}
}

// Programs that never end, or are blocked, from every state, in each function.
func TestChangesOfProgramsWithoutFinalStates(t *testing.T) {
	t.Parallel()
	for n, p := range endlessPrograms() {
		for k, q := range append(endlessPrograms(), "s", "ax1", "/ax0ax1", "/s~f", "/s@ts", "@<x2/ax+x1ax0") {
			both := " of " + p + " and " + q
			wantLetters(t, "AffectedVars"+both, impl.AffectedVars(p, q), "")
			wantLetters(t, "AffectedVars, exchanged,"+both, impl.AffectedVars(q, p), "")
			wantTruth(t, "UndoesProgram"+both, impl.UndoesProgram(p, q), false)
			wantTruth(t, "UndoesProgram, exchanged,"+both, impl.UndoesProgram(q, p), false)
			for _, out := range []string{"", "y", "xyz"} {
				in := lettersToAgreeOn()[(n+k)%8]
				wantTruth(t, "SameOn"+both+", "+in+", "+out, impl.SameOn(p, q, in, out), true)
				wantTruth(t, "SameOn, exchanged,"+both+", "+in+", "+out, impl.SameOn(q, p, in, out), true)
			}
			if (n+k)%4 == 0 {
				checkChange(t, p, q, n+k)
				checkChange(t, q, p, n+k)
			}
		}
		wantTruth(t, "SamePrograms of "+p+" with itself", impl.SamePrograms(p, p), true)
		wantTruth(t, "IdempotentProgram of "+p, impl.IdempotentProgram(p), true)
		wantTruth(t, "DeterministicProgram of "+p, impl.DeterministicProgram(p), true)
		for _, v := range letters() {
			wantLetters(t, "DependsOn of "+p+", "+v, impl.DependsOn(p, v), "")
			for _, w := range letters() {
				wantTruth(t, "MonotoneIn of "+p+", "+v+", "+w, impl.MonotoneIn(p, v, w), true)
			}
		}
		checkProgramAlone(t, p)
	}
	// What never ends, and what is blocked.
	for _, c := range []struct {
		p, q, kind string
		refines    bool
	}{{"@ts", "~f", "loops", false}, {"@ts", "@tax+x1", "none", true}, {"~f", ";~=x0~=x1", "none", true}, {"~f", "/~f@ts", "loops", true}, {"@ts", "/~f@ts", "blocks", true}, {"@ts", "s", "finals", false}, {"~f", "s", "finals", false}, {"~f", "/s~f", "finals", true}, {"@t~f", "~f", "none", true}, {";@tsax1", "@ts", "none", true}} {
		wantDifference(t, c.p, c.q, impl.State{}, c.kind)
		wantTruth(t, "RefinesProgram of "+c.p+" and "+c.q, impl.RefinesProgram(c.p, c.q), c.refines)
	}
}

// Choices of equal parts, and those that make no difference.
func TestChoicesThatMakeNoDifference(t *testing.T) {
	t.Parallel()
	for n, p := range someOfEveryForm(7) {
		if len(p) > 60 {
			continue
		}
		for k, q := range sameAs(p) {
			wantTruth(t, "SamePrograms of "+p+" and "+q, impl.SamePrograms(p, q), true)
			wantTruth(t, "SamePrograms of "+q+" and "+p, impl.SamePrograms(q, p), true)
			wantDifference(t, q, p, impl.State{}, "none")
			if (n+k)%5 == 0 {
				wantTruth(t, "RefinesProgram of "+p+" and "+q, impl.RefinesProgram(p, q), true)
				wantTruth(t, "RefinesProgram of "+q+" and "+p, impl.RefinesProgram(q, p), true)
				checkProgramAlone(t, q)
				checkChange(t, p, q, n+k)
			}
		}
	}
}

// A program that may do more than another one, or less.
func TestProgramsNearToOthers(t *testing.T) {
	t.Parallel()
	kinds := map[string]int{}
	for n, p := range append(programsOfEveryKind(), "/ax0/ax1ax2", "/s@ts", "/ax1~f", "@ts", "~f", "/~f@ts") {
		for k, q := range nearTo(p) {
			if (n+k)%7 == 0 {
				checkChange(t, p, q, n+k)
				checkChange(t, q, p, n+k)
				checkProgramAlone(t, q)
			}
			_, kind := impl.FirstDifference(p, q)
			kinds[kind]++
		}
	}
	for _, kind := range []string{"finals", "loops", "blocks", "none"} {
		if kinds[kind] < 50 {
			t.Errorf("only %d pairs of programs differ in %s", kinds[kind], kind)
		}
	}
}

func TestChangesAgainstTheModel(t *testing.T) {
	t.Parallel()
	for n, both := range somePairsOfPrograms(4) {
		checkChange(t, both[0], both[1], n)
		checkChange(t, both[1], both[0], n*7+5)
	}
	for n, p := range choosingPrograms() {
		for k, q := range choosingPrograms() {
			if (n+k)%3 == 0 {
				checkChange(t, p, q, n*5+k)
			}
		}
	}
}

func TestProgramsAloneAgainstTheModel(t *testing.T) {
	t.Parallel()
	for _, p := range append(someOfEveryForm(5), fullPrograms()...) {
		checkProgramAlone(t, p)
	}
}

// All letters before and behind.
func TestSameOnOfAllLetters(t *testing.T) {
	t.Parallel()
	for _, both := range [][2]string{{"s", "s"}, {"s", ";ax1ay2"}, {"axy", "ax+y0"}, {"azx", "ay*zz"}, {"/ax0ax1", ";/ax1ax0azy"}, {"?=x0ay1~f", "?=x0ay1s"}, {"@<x2;ax+x1ay+y1", "ax2"}, {"~=xy", "~=yx"}, {"~f", "s"}, {"@=z1s", "/s@ts"}, {";ax1;ay1az1", ";/az1~f;ay1ax1"}} {
		c := changeOf(both[0], both[1])
		for _, in := range lettersToAgreeOn() {
			for _, out := range lettersToAgreeOn() {
				wantTruth(t, "SameOn of "+c.p+", "+c.q+", "+in+", "+out, impl.SameOn(c.p, c.q, in, out), c.sameOn(in, out))
			}
			wantTruth(t, "SameOn of "+c.p+", "+c.q+", "+in+" and no letters", impl.SameOn(c.p, c.q, in, ""), true)
		}
	}
}

// Programs of 200 bytes in sequence are too long for a program.
func TestSequencesPastTheLimit(t *testing.T) {
	t.Parallel()
	cases := []struct {
		p, q            string
		commute, undoes bool
	}{
		{"ax+x1", "ax+x2", true, true}, {"ax+x1", "ay+y1", true, false}, {"ax+x1", "ayx", false, false}, {"ax+xy", "ax-xy", true, true}, {"ax1", "ax2", false, false}, {"s", "s", true, true}, {"s", "~f", true, false}, {"@ts", "~f", false, false}, {"/ss", "?=x0ss", true, true}, {"?=x0ax1?=x1ax0s", "?=x1ax0?=x0ax1s", true, true}, {"@<x2ax+x1", "/ax2ax2", true, false}, {"/s~f", "s", true, false}, {"s", "/s@ts", true, false}, {"~=x1", "ax1", false, false},
	}
	for _, c := range cases {
		p, q := padded(c.p), padded(c.q)
		if _, fits := impl.JoinPrograms(p, q); fits || len(p) != 200 || len(q) != 200 || !impl.ProgramValid(p) || !impl.ProgramValid(q) {
			t.Fatalf("%q and %q should be programs of 200 bytes", p, q)
		}
		for _, both := range [][2]string{{p, q}, {p, c.q}, {c.p, q}, {c.p, c.q}} {
			wantTruth(t, "CommutePrograms of "+both[0]+" and "+both[1], impl.CommutePrograms(both[0], both[1]), c.commute)
			wantTruth(t, "CommutePrograms of "+both[1]+" and "+both[0], impl.CommutePrograms(both[1], both[0]), c.commute)
			wantTruth(t, "UndoesProgram of "+both[0]+" and "+both[1], impl.UndoesProgram(both[0], both[1]), c.undoes)
		}
		for short, long := range map[string]string{c.p: p, c.q: q} {
			wantTruth(t, "IdempotentProgram of "+long, impl.IdempotentProgram(long), impl.IdempotentProgram(short))
			wantTruth(t, "SamePrograms of "+long+" and "+short, impl.SamePrograms(long, short), true)
			// One byte more is too much.
			longer := strings.Replace(long, "s", "~t", 1)
			checkNoChange(t, longer, short)
			checkNoChange(t, short, longer)
			checkNoChange(t, longer, longer)
			checkNoProgramAlone(t, longer)
		}
	}
	for _, c := range []struct {
		p    string
		want bool
	}{{"ax1", true}, {"ax+x1", false}, {"/ax0ax1", true}, {"/sax+x1", false}, {"@ts", true}, {"~f", true}, {"?=x0ax1~f", false}, {"@<x2ax+x1", true}} {
		wantTruth(t, "IdempotentProgram of 200 bytes that do what "+c.p+" does", impl.IdempotentProgram(padded(c.p)), c.want)
	}
}

func TestChangesOfLongProgramsAgainstTheModel(t *testing.T) {
	t.Parallel()
	full := fullPrograms()
	for n, p := range full {
		checkChange(t, p, full[(n+5)%len(full)], n)
		checkChange(t, p, programsOfEveryKind()[n], n+3)
		checkChange(t, padded("/ax0az+zx"), p, n+6)
	}
}

// What is told of two programs is what RunsFrom, PairHolds and AgreeOn tell.
func TestChangesAreWhatRunsTell(t *testing.T) {
	t.Parallel()
	for n, both := range somePairsOfPrograms(5) {
		p, q := both[0], both[1]
		if n%4 == 0 {
			q = sameAs(p)[n/4%11]
		}
		if len(p) > 90 || len(q) > 90 {
			continue
		}
		checkRunsOfBoth(t, p, q)
		for k, v := range letters() {
			in, out := lettersToAgreeOn()[(n+k*3)%8], lettersToAgreeOn()[(n/8+k)%8]
			before, _ := impl.AgreeOn(in)
			after, _ := impl.AgreeOn(out)
			wantTruth(t, "SameOn of "+p+", "+q+", "+in+", "+out, impl.SameOn(p, q, in, out), impl.PairHolds(before, p, q, after))
			wantTruth(t, "AffectedVars of "+p+" and "+q+" with "+v, strings.Contains(impl.AffectedVars(p, q), v), !impl.SameOn(p, q, "xyz", v))
		}
		forth, _ := impl.JoinPrograms(p, q)
		back, _ := impl.JoinPrograms(q, p)
		twice, _ := impl.JoinPrograms(p, p)
		wantTruth(t, "CommutePrograms of "+p+" and "+q, impl.CommutePrograms(p, q), impl.SamePrograms(forth, back))
		wantTruth(t, "UndoesProgram of "+p+" and "+q, impl.UndoesProgram(p, q), impl.SamePrograms(forth, "s"))
		wantTruth(t, "IdempotentProgram of "+p, impl.IdempotentProgram(p), impl.SamePrograms(twice, p))
	}
}

// checkRunsOfBoth compares what RunsFrom tells of two programs, state by state.
func checkRunsOfBoth(t *testing.T, p, q string) {
	t.Helper()
	same, refines, first, what := true, true, impl.State{}, "none"
	for _, s := range allStates() {
		left, _ := impl.RunsFrom(p, s)
		right, _ := impl.RunsFrom(q, s)
		refines = refines && impl.PredWithin(left.Finals, right.Finals) && (right.Loops || !left.Loops) && (right.Blocks || !left.Blocks)
		if left != right && same {
			same, first = false, s
			switch {
			case left.Finals != right.Finals:
				what = "finals"
			case left.Loops != right.Loops:
				what = "loops"
			default:
				what = "blocks"
			}
		}
	}
	wantDifference(t, p, q, first, what)
	wantTruth(t, "SamePrograms of "+p+" and "+q, impl.SamePrograms(p, q), same)
	wantTruth(t, "RefinesProgram of "+p+" and "+q, impl.RefinesProgram(p, q), refines)
}

// What is told of one program is what RunsFrom, PairHolds and SwapProgram tell.
func TestProgramsAloneAreWhatRunsTell(t *testing.T) {
	t.Parallel()
	for n, p := range someOfEveryForm(9) {
		most := 0
		for _, s := range allStates() {
			r, _ := impl.RunsFrom(p, s)
			most = max(most, impl.CountPred(r.Finals))
		}
		wantTruth(t, "DeterministicProgram of "+p, impl.DeterministicProgram(p), most <= 1)
		for k, v := range letters() {
			w := letters()[(n+k)%3]
			wantLetters(t, "DependsOn of "+p+", "+w, impl.DependsOn(p, w), dependsByRuns(p, w))
			wantTruth(t, "MonotoneIn of "+p+", "+v+", "+w, impl.MonotoneIn(p, v, w), monotoneByPairs(p, v, w))
			swapped, _ := impl.SwapProgram(p, v, w)
			wantTruth(t, "SymmetricIn of "+p+", "+v+", "+w, impl.SymmetricIn(p, v, w), impl.SamePrograms(p, swapped))
		}
	}
}

// dependsByRuns looks for states from which the final states differ when all
// other variables are left out.
func dependsByRuns(p, out string) string {
	values := func(s impl.State) string {
		r, _ := impl.RunsFrom(p, s)
		set := r.Finals
		for _, v := range letters() {
			if v != out {
				set, _ = impl.SomeVar(set, v)
			}
		}
		return set
	}
	vars := ""
	for _, v := range letters() {
		differ := false
		for _, s := range allStates() {
			for n := range 3 {
				to, _ := impl.SetVar(s, v, n)
				differ = differ || values(s) != values(to)
			}
		}
		if differ {
			vars += v
		}
	}
	return vars
}

// monotoneByPairs asks PairHolds.
func monotoneByPairs(p, v, w string) bool {
	others, _ := impl.AgreeOn(strings.Replace("xyz", v, "", 1))
	before, _ := impl.RelOf("|<" + v + raised(v) + "=" + v + raised(v))
	after, _ := impl.RelOf("|<" + w + raised(w) + "=" + w + raised(w))
	before, _ = impl.AndRel(before, others)
	return impl.PairHolds(before, p, p, after)
}

// Promise 10: programs that do the same do so beside all others, in sequence, as
// parts, and in triples of two programs.
func TestProgramsThatDoTheSameDoSoBesideOthers(t *testing.T) {
	t.Parallel()
	rels := someRels()
	for n, both := range programsThatDoTheSame() {
		p, q := both[0], both[1]
		if !impl.SamePrograms(p, q) {
			t.Fatalf("%q and %q should do the same", p, q)
		}
		for k, r := range []string{programsOfEveryKind()[n%23], choosingPrograms()[n%23], endlessPrograms()[n%14]} {
			for _, around := range contextsOf(r) {
				left, right := strings.ReplaceAll(around, "#", p), strings.ReplaceAll(around, "#", q)
				if impl.ProgramValid(left) && impl.ProgramValid(right) {
					wantTruth(t, "SamePrograms of "+left+" and "+right, impl.SamePrograms(left, right), true)
				}
			}
			checkSameBeside(t, p, q, r, rels[(n*7+k)%len(rels)])
		}
	}
}

// programsThatDoTheSame returns pairs of them, of different forms.
func programsThatDoTheSame() [][2]string {
	list := [][2]string{
		{"@<x2ax+x1", "ax2"}, {"ax+y1", "ax+1y"}, {"@<x2/ax+x1ax2", "ax2"}, {"@=x0s", "?=x0@tay1s"}, {"~=x0", "?=x0s~f"}, {"/ax0/ax1ax2", "/s/ax+x1ax-x1"}, {"/~=x0~=x1", "?=x2~f/s~f"}, {"@tax+x1", ";@tsaz1"}, {"~f", ";~=x0~=x1"}, {"/@ts~f", ";/s~f@ts"},
		{";ax1ay2", ";ay2ax1"}, {"?<xyaxyayx", "?<xy?=x0axyaxyayx"}, {"@!=x2/sax+x1", "/;?=x2s@tsax2ax2"},
	}
	for n, p := range movingPrograms() {
		if len(p) < 50 && n%9 == 0 {
			list = append(list, [2]string{p, sameAs(p)[1+n/9%10]})
		}
	}
	return list
}

// contextsOf returns programs with places for another one, beside a program.
func contextsOf(r string) []string {
	return []string{
		";#" + r, ";" + r + "#", "?=x1#" + r, "?=x1" + r + "#", "@<x2#", "@!=yz;#" + r, "@<x2;" + r + "#", "/#" + r, "/" + r + "#", "/##", ";##", ";" + r + ";#" + r, "@t/#" + r, "?<xy@=x1;#" + r + "s", ";/#" + r + "~=xy",
	}
}

// checkSameBeside checks that what is told of a program beside another one is also
// told of a program that does the same.
func checkSameBeside(t *testing.T, p, q, r, rel string) {
	t.Helper()
	tell := func(p string) []string {
		free, _ := impl.PairFree(p, r, rel)
		freeRight, _ := impl.PairFree(r, p, rel)
		reached, _ := impl.PairPost(rel, p, r)
		matched, _ := impl.MatchFree(p, r, rel)
		matchedRight, _ := impl.MatchFree(r, p, rel)
		whether := ""
		for _, is := range []bool{impl.EndTogether(rel, p, r), impl.EndTogether(rel, r, p), impl.SamePrograms(p, r), impl.RefinesProgram(p, r), impl.RefinesProgram(r, p), impl.CommutePrograms(p, r), impl.UndoesProgram(p, r), impl.SameOn(p, r, "xy", "yz"), impl.IdempotentProgram(p), impl.DeterministicProgram(p), impl.MonotoneIn(p, "x", "y")} {
			whether += map[bool]string{true: "yes ", false: "no "}[is]
		}
		return []string{free, freeRight, reached, matched, matchedRight, whether, impl.AffectedVars(p, r), impl.DependsOn(p, "x")}
	}
	left, right := tell(p), tell(q)
	for i := range left {
		wantLetters(t, "what is told of "+q+" beside "+r+" and "+rel, right[i], left[i])
	}
}

// Promise 10: a change affects a variable exactly if two runs from one state end
// with different values of it.
func TestAffectedVariablesAreToldByPairsOfRuns(t *testing.T) {
	t.Parallel()
	seen, unseen := 0, 0
	for _, both := range somePairsOfPrograms(6) {
		p, q := both[0], both[1]
		affected := impl.AffectedVars(p, q)
		for _, v := range letters() {
			agree, _ := impl.AgreeOn(v)
			s, to, s2, t2, found := impl.CounterPair(equalPairs, p, q, agree)
			wantTruth(t, "AffectedVars of "+p+" and "+q+" with "+v, strings.Contains(affected, v), found)
			if !found {
				unseen++
				continue
			}
			left, isLeft := impl.PicksTo(p, s, s2)
			right, isRight := impl.PicksTo(q, to, t2)
			end, _, _ := impl.ReplayRun(p, s, left, 300)
			end2, _, _ := impl.ReplayRun(q, s, right, 300)
			if isLeft && isRight {
				seen++
				wantTruth(t, "whether runs of "+p+" and "+q+" end with the same "+v, valueIn(end, v) == valueIn(end2, v), false)
			}
		}
	}
	if seen < 100 || unseen < 100 {
		t.Errorf("only %d pairs of runs end differently, and %d are of variables that are not affected", seen, unseen)
	}
}

// Of programs with but one final state from each state, a variable depends on
// another one exactly if it is not the same from states that agree on all others.
func TestDependenceIsToldByPairsOfRuns(t *testing.T) {
	t.Parallel()
	seen := map[bool]int{}
	for _, p := range someOfEveryForm(2) {
		surely, _ := impl.MayEnd(p)
		if !impl.DeterministicProgram(p) || surely != everyState {
			continue
		}
		for _, out := range letters() {
			depends := impl.DependsOn(p, out)
			for _, v := range letters() {
				others := strings.Replace("xyz", v, "", 1)
				is := strings.Contains(depends, v)
				seen[is]++
				wantTruth(t, "SameOn of "+p+" twice, "+others+", "+out, impl.SameOn(p, p, others, out), !is)
			}
		}
	}
	if seen[true] < 100 || seen[false] < 100 {
		t.Errorf("there is dependence %d times, and none %d times", seen[true], seen[false])
	}
}

// checkNoChange checks every result that the chapter states if one of two programs
// is none, or neither is one.
func checkNoChange(t *testing.T, p, q string) {
	t.Helper()
	wantTruth(t, "SamePrograms of what is no program", impl.SamePrograms(p, q), false)
	wantDifference(t, p, q, impl.State{}, "")
	wantTruth(t, "RefinesProgram of what is no program", impl.RefinesProgram(p, q), false)
	for _, letters := range []string{"", "y", "xyz"} {
		wantTruth(t, "SameOn of what is no program", impl.SameOn(p, q, "xyz", letters), false)
		wantTruth(t, "SameOn of what is no program", impl.SameOn(p, q, letters, ""), false)
	}
	wantLetters(t, "AffectedVars of what is no program", impl.AffectedVars(p, q), "")
	wantTruth(t, "CommutePrograms of what is no program", impl.CommutePrograms(p, q), false)
	wantTruth(t, "UndoesProgram of what is no program", impl.UndoesProgram(p, q), false)
}

// checkNoProgramAlone does so for the functions of one program, with letters that
// are valid and letters that are not.
func checkNoProgramAlone(t *testing.T, p string) {
	t.Helper()
	wantTruth(t, "IdempotentProgram of what is no program", impl.IdempotentProgram(p), false)
	wantTruth(t, "DeterministicProgram of what is no program", impl.DeterministicProgram(p), false)
	for _, v := range []string{"x", "z", "", "xy", "s"} {
		wantLetters(t, "DependsOn of what is no program", impl.DependsOn(p, v), "")
		for _, w := range []string{v, "y"} {
			wantTruth(t, "MonotoneIn of what is no program", impl.MonotoneIn(p, v, w), false)
			wantTruth(t, "SymmetricIn of what is no program", impl.SymmetricIn(p, v, w), false)
		}
	}
}

func TestChangesOfWhatIsNoProgram(t *testing.T) {
	t.Parallel()
	for _, bad := range append(textsThatAreNoPrograms(), onlyWidePrograms()...) {
		for _, other := range []string{"s", "~f", "@ts", "/ax0ax1"} {
			checkNoChange(t, bad, other)
			checkNoChange(t, other, bad)
		}
		checkNoChange(t, bad, bad)
		checkNoProgramAlone(t, bad)
	}
}

// Letters that are none as of AgreeOn, twice the same, and out of their order.
func TestSameOnOfWhatAreNoLetters(t *testing.T) {
	t.Parallel()
	for _, bad := range brokenAgreements() {
		for _, both := range [][2]string{{"s", "s"}, {"~f", "@ts"}, {";ax1;ay1az1", ";ax1;ay1az1"}, {"x", "s"}} {
			for _, letters := range []string{"", "x", "xyz", bad} {
				wantTruth(t, "SameOn before what are no letters", impl.SameOn(both[0], both[1], letters, bad), false)
				wantTruth(t, "SameOn behind what are no letters", impl.SameOn(both[0], both[1], bad, letters), false)
			}
		}
	}
}

// One letter of a variable is asked for, and not more, nor none.
func TestChangesInWhatIsNoVariable(t *testing.T) {
	t.Parallel()
	for _, bad := range append(brokenLetters(), "xz", "zyx", "yx", "yy", "xyzx", "x\n", strings.Repeat("x", 200), strings.Repeat("z", 1<<20)) {
		for _, p := range []string{"s", "ax+yz", "~f", "@ts", "ax0", "x"} {
			wantLetters(t, "DependsOn of "+p+" and what is no variable", impl.DependsOn(p, bad), "")
			for _, v := range append(letters(), bad) {
				wantTruth(t, "MonotoneIn of "+p+" from what is no variable", impl.MonotoneIn(p, bad, v), false)
				wantTruth(t, "MonotoneIn of "+p+" for what is no variable", impl.MonotoneIn(p, v, bad), false)
				wantTruth(t, "SymmetricIn of "+p+" in what is no variable", impl.SymmetricIn(p, bad, v), false)
				wantTruth(t, "SymmetricIn of "+p+" in what is no variable", impl.SymmetricIn(p, v, bad), false)
			}
		}
	}
}

// The given examples.
func TestExamplesOfChanges(t *testing.T) {
	wantTruth(t, "SamePrograms of the example", impl.SamePrograms("ax+y1", "ax+1y"), true)
	wantTruth(t, "MonotoneIn of the example", impl.MonotoneIn("ax+x1", "x", "x"), false)
}
