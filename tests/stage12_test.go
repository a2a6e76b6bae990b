package tests

import (
	"slices"
	"strings"
	"testing"

	"loop.example/productprograms/impl"
)

func TestConstantsOfStage12(t *testing.T) {
	if got := [2]int{impl.CostNone, impl.CostAny}; got != [2]int{-1, -2} {
		t.Errorf("the constants are %v", got)
	}
}

func TestCountedRun(t *testing.T) {
	t.Parallel()
	cases := []struct {
		p, from, picks string
		want           int // -1 if the run does not end
	}{
		{"s", "012", "", 0}, {"ax1", "012", "", 1}, {"axx", "012", "", 1}, {"~t", "012", "", 0}, {";ax1ax1", "000", "", 2}, {";s;ax1s", "000", "", 1}, {";;ax1ay1az1", "000", "", 3}, {";ax1;ay1az1", "000", "", 3},
		{"?=x0ax1s", "000", "", 1}, {"?=x0ax1s", "100", "", 0}, {"?=x0s;ax1ax2", "100", "", 2}, {"?=x0s;ax1ax2", "000", "", 0}, {"@fax1", "000", "", 0}, {"@<x2ax+x1", "010", "", 2}, {"@<x2ax+x1", "100", "", 1}, {"@<x2ax+x1", "200", "", 0}, {"@<x2;ax+x1;ay0@<y2ay+y1", "000", "", 8},
		{"/ax1s", "000", "0", 1}, {"/ax1s", "000", "1", 0}, {"//;ax1ax2s;ax1;ax1ax1", "000", "00", 2}, {"//;ax1ax2s;ax1;ax1ax1", "000", "01", 0}, {"//;ax1ax2s;ax1;ax1ax1", "000", "1", 3},
		{"@<x2/ax+x1ax0", "010", "0100", 4}, {"@<x2/ax+x1ax0", "010", "00", 2}, {"@<x2/ax+x1ax0", "010", "1111100", 7}, {"@=x0/sax1", "000", "00001", 1}, {"@=x0/ax0ax1", "000", "00001", 5},
		// Picks may be left over, and there may be none to take.
		{"ax1", "000", "0110", 1}, {"/ax1s", "000", "011", 1}, {"/ax1s", "000", "100", 0}, {"@<x2/ax+x1ax0", "200", "01", 0},
		// Blocked, also behind what has cost something.
		{"~f", "000", "", -1}, {";ax1~f", "000", "", -1}, {";ax1~=x0", "000", "", -1}, {"~=x1", "000", "", -1}, {"~=x1", "100", "", 0}, {"/~fax1", "000", "0", -1}, {"/~fax1", "000", "1", 1}, {"@<x2;ax+x1~<x2", "000", "", -1},
		// It asks for picks.
		{"/ax1s", "000", "", -1}, {";ax1/ss", "000", "", -1}, {"@<x2/ax+x1ax0", "010", "0", -1}, {"@<x2/ax+x1ax0", "010", "1111", -1}, {"/s/ax1s", "000", "1", -1}, {"/s/ax1s", "000", "0", 0},
		// It has more steps.
		{"@ts", "000", "", -1}, {"@tax1", "000", "", -1}, {"@=x0/sax1", "000", strings.Repeat("0", 400) + "1", -1}, {"/@tss", "000", "0", -1}, {"/@tss", "000", "1", 0},
	}
	for _, c := range cases {
		wantCounted(t, c.p, stateOf(c.from), c.picks, max(c.want, 0), c.want >= 0)
	}
}

// Runs of just as many steps as may be, and of one more.
func TestCountedRunsOfManySteps(t *testing.T) {
	t.Parallel()
	for _, steps := range []int{41, 100, 299, 300} {
		wantCounted(t, countingProgram(steps), impl.State{}, "", 20, true)
		wantCostFrom(t, countingProgram(steps), impl.State{}, 20, 20)
	}
	for _, steps := range []int{301, 302, 350} {
		// The run costs as much all the same.
		wantCounted(t, countingProgram(steps), impl.State{}, "", 0, false)
		wantCostFrom(t, countingProgram(steps), impl.State{}, 20, 20)
	}
	// Each turn is a step for the test and one for what it costs.
	const p = "@=x0/ax0ax1"
	for _, turns := range []int{1, 2, 148, 149} {
		wantCounted(t, p, impl.State{}, strings.Repeat("0", turns-1)+"1", turns, true)
	}
	wantCounted(t, p, impl.State{}, strings.Repeat("0", 149)+"1", 0, false)
	wantCounted(t, ";s"+p, impl.State{}, strings.Repeat("0", 148)+"1", 149, true)
	wantCounted(t, ";;ss"+p, impl.State{}, strings.Repeat("0", 148)+"1", 0, false)
	wantCostFrom(t, p, impl.State{}, 1, impl.CostAny)
}

func TestCountedRunAgainstTheModel(t *testing.T) {
	t.Parallel()
	picks := append(allPicks(4), "0000000000", "1111111111", "0101010101", "1000100010001", "110110110110110")
	for n, p := range append(costlyPrograms(60), programsToRun()...) {
		tree := modelTree(p)
		for i, pick := range picks {
			s := allStates()[(n+5*i)%27]
			r := replayModel(tree, s, pick, 300)
			if r.code != impl.RunDone {
				r.cost = 0
			}
			wantCounted(t, p, s, pick, r.cost, r.code == impl.RunDone)
		}
	}
}

const none, anyCost = impl.CostNone, impl.CostAny

func TestCosts(t *testing.T) {
	t.Parallel()
	cases := []struct {
		p, from string
		costs   [2]int
		ends    string // each final state with both of its costs
	}{
		{"s", "012", [2]int{0, 0}, "012 0 0"}, {"ax1", "012", [2]int{1, 1}, "112 1 1"}, {"axx", "012", [2]int{1, 1}, "012 1 1"}, {"~t", "012", [2]int{0, 0}, "012 0 0"}, {";ax1ax2", "012", [2]int{2, 2}, "212 2 2"}, {";;ax1ay1az1", "000", [2]int{3, 3}, "111 3 3"},
		{"?=x0ax1;ax1ay1", "000", [2]int{1, 1}, "100 1 1"}, {"?=x0ax1;ax1ay1", "200", [2]int{2, 2}, "110 2 2"}, {"@fax1", "000", [2]int{0, 0}, "000 0 0"}, {"@<x2ax+x1", "010", [2]int{2, 2}, "210 2 2"}, {"@<x2ax+x1", "110", [2]int{1, 1}, "210 1 1"}, {"@<x2ax+x1", "210", [2]int{0, 0}, "210 0 0"}, {"@<x2;ax+x1;ay0@<y2ay+y1", "000", [2]int{8, 8}, "220 8 8"},
		// No run ends, from this state or at all.
		{"~f", "000", [2]int{none, none}, ""}, {"@ts", "000", [2]int{none, none}, ""}, {"@tax+x1", "000", [2]int{none, none}, ""}, {"@t/ax1~f", "000", [2]int{none, none}, ""}, {"/~f@tax1", "000", [2]int{none, none}, ""}, {";ax1~f", "000", [2]int{none, none}, ""}, {";ax1@ts", "000", [2]int{none, none}, ""}, {"~=x1", "000", [2]int{none, none}, ""}, {"~=x1", "100", [2]int{0, 0}, "100 0 0"}, {"@=x1ay1", "100", [2]int{none, none}, ""}, {"@=x1ay1", "000", [2]int{0, 0}, "000 0 0"}, {";~=x1ax2", "000", [2]int{none, none}, ""}, {";@=x0/ax0ax1~f", "000", [2]int{none, none}, ""},
		// Runs of different costs, to one state and to several.
		{"/ax1s", "000", [2]int{0, 1}, "000 0 0 100 1 1"}, {"/ax1s", "100", [2]int{0, 1}, "100 0 1"}, {"/;ax1ax2s", "000", [2]int{0, 2}, "000 0 0 200 2 2"}, {"/ax1ax1", "000", [2]int{1, 1}, "100 1 1"}, {"/ax1/;ax2ax1;ax2;ax2ax1", "000", [2]int{1, 3}, "100 1 3"}, {"/;ax1;ax1ax1/ax2;ax2ax1", "000", [2]int{1, 3}, "100 2 3 200 1 1"}, {"/ax1~f", "000", [2]int{1, 1}, "100 1 1"}, {"/ax1@ts", "000", [2]int{1, 1}, "100 1 1"}, {";/sax1/s;ay1ay1", "000", [2]int{0, 3}, "000 0 0 100 1 1 010 2 2 110 3 3"}, {"/s/ax0/;ax0ax0;ax0;ax0ax0", "000", [2]int{0, 3}, "000 0 3"},
		// What is cheaper at first is dearer in the end.
		{";/ax1;ax0ax0?=x1;ay1;ay2ay1s", "000", [2]int{2, 4}, "110 4 4 000 2 2"}, {";/ax1;ax1ax2?=x2ax0;ax1;ax1ax0", "000", [2]int{3, 4}, "000 3 4"}, {";/s;axxaxx;/;axxaxxaxx/;axx;axxaxxs", "000", [2]int{1, 7}, "000 1 7"}, {"@<x2/ax2;ax+x1ay+y1", "000", [2]int{1, 4}, "200 1 1 210 3 3 220 4 4"}, {"@<x2/ax2;ax+x1;axxaxx", "000", [2]int{1, 6}, "200 1 6"},
		// Loops that go round without a cost.
		{"@=x0/sax1", "000", [2]int{1, 1}, "100 1 1"}, {"@=x0/sax1", "100", [2]int{0, 0}, "100 0 0"}, {"@=x0/s/sax1", "000", [2]int{1, 1}, "100 1 1"}, {"@=x0/@=x0/sax1ax1", "000", [2]int{1, 1}, "100 1 1"}, {"@=x0/s/ax1;ay1ax2", "000", [2]int{1, 2}, "100 1 1 210 2 2"}, {"@=x0?=y1/sax1/say1", "000", [2]int{2, 2}, "110 2 2"}, {"@=x0/~t/~fax1", "000", [2]int{1, 1}, "100 1 1"}, {"@=x0/@fax1/;~tsax2", "000", [2]int{1, 1}, "200 1 1"},
		// So do those beside and within others that cost, and those around them.
		{";ax0;@=x0/sax1ay1", "000", [2]int{3, 3}, "110 3 3"}, {";@=x0/sax1@<y2ay+y1", "000", [2]int{3, 3}, "120 3 3"}, {"/@=x0/sax1;ax2ax2", "000", [2]int{1, 2}, "100 1 1 200 2 2"}, {"@<x2;ax+x1;ay0@=y0/say1", "000", [2]int{6, 6}, "210 6 6"}, {"@<x2;@=y0/say1;ax+x1ay0", "000", [2]int{6, 6}, "200 6 6"}, {"@=y0/@<x2ax+x1ay1", "000", [2]int{1, 3}, "010 1 1 210 3 3"}, {"@=y0/@<x2ax+x1ay1", "200", [2]int{1, 1}, "210 1 1"}, {"@=y0/;@<x2ax+x1/sax0ay1", "000", [2]int{1, anyCost}, "010 1 anyCost 210 3 anyCost"}, {"@=y0;/sax+x1/say1", "000", [2]int{1, anyCost}, "010 1 anyCost 110 2 anyCost 210 3 anyCost"}, {"@=x0/@=y0/say1ax1", "000", [2]int{1, 2}, "100 1 1 110 2 2"},
		// Runs of any great cost.
		{"@=x0/ax0ax1", "000", [2]int{1, anyCost}, "100 1 anyCost"}, {"@<x2/ax+x1ax0", "010", [2]int{2, anyCost}, "210 2 anyCost"}, {"@<x2/ax+x1ax0", "110", [2]int{1, anyCost}, "210 1 anyCost"}, {"@<x2/ax+x1ax0", "210", [2]int{0, 0}, "210 0 0"}, {"@=x0/ay+y1ax1", "000", [2]int{1, anyCost}, "100 1 anyCost 110 2 anyCost 120 3 anyCost"}, {"/s@=x0/ax0ax1", "000", [2]int{0, anyCost}, "000 0 0 100 1 anyCost"}, {"@=x0/;ay1s/sax1", "000", [2]int{1, anyCost}, "100 1 1 110 2 anyCost"}, {"@=x0/@=y0ay1/ay0ax1", "000", [2]int{1, anyCost}, "100 1 anyCost 110 2 anyCost"}, {";@=x0/ax0ax1;ay1az1", "000", [2]int{3, anyCost}, "111 3 anyCost"}, {";;ay1az1@=x0/ax0ax1", "000", [2]int{3, anyCost}, "111 3 anyCost"}, {"@<y1;ay1@=x0/ax0ax1", "000", [2]int{2, anyCost}, "110 2 anyCost"},
		// They lead to some of the final states alone.
		{"/ax1@=x0/ax0ax2", "000", [2]int{1, anyCost}, "100 1 1 200 1 anyCost"}, {"@=x0/ax1;ax2@=x2/ay1ax1", "000", [2]int{1, anyCost}, "100 1 2 110 3 anyCost"}, {";@=x0/ax1;ax2@=x2/az1ax1?=z1ay1s", "000", [2]int{1, anyCost}, "100 1 2 111 4 anyCost"}, {";/s;az1@=x0/ax0ax1?=z1s~=x0", "000", [2]int{0, anyCost}, "000 0 0 101 2 anyCost"}, {"@<x2/ax2?=x0ax1@=x1/ay1;ax2az1", "000", [2]int{1, anyCost}, "200 1 2 201 3 3 211 4 anyCost"},
		// A loop that costs and never ends, or is blocked.
		{"/s@tax+x1", "000", [2]int{0, 0}, "000 0 0"}, {"/ax1@tax1", "000", [2]int{1, 1}, "100 1 1"}, {"@<x2/ax+x1@tax0", "000", [2]int{2, 2}, "200 2 2"}, {"/s;@tax1ax1", "000", [2]int{0, 0}, "000 0 0"}, {"/ay1@=x0ay0", "000", [2]int{1, 1}, "010 1 1"}, {"/ay1@=x0ay0", "100", [2]int{0, 1}, "100 0 0 110 1 1"}, {"/s@t/ax+x1ay1", "000", [2]int{0, 0}, "000 0 0"}, {"/s;@=x0/ax0ax1~f", "000", [2]int{0, 0}, "000 0 0"}, {"/s;ax1~f", "000", [2]int{0, 0}, "000 0 0"}, {"@<x2/ax+x1;ay1~f", "000", [2]int{2, 2}, "200 2 2"}, {"@<x2;ax+x1/s@tax0", "000", [2]int{2, 2}, "200 2 2"}, {"@=x0/ax1;ay1@=y1az+z1", "000", [2]int{1, 1}, "100 1 1"}, {"@=x0;ax1?=y0s@=x1az+z1", "010", [2]int{none, none}, ""},
	}
	for _, c := range cases {
		s, found := stateOf(c.from), map[impl.State]bool{}
		wantCostFrom(t, c.p, s, c.costs[0], c.costs[1])
		for list := strings.Fields(c.ends); len(list) > 0; list = list[3:] {
			to := stateOf(list[0])
			found[to] = true
			wantCostBetween(t, c.p, s, to, costNamed(list[1]), costNamed(list[2]))
		}
		for _, to := range allStates() {
			if !found[to] {
				wantCostBetween(t, c.p, s, to, none, none)
			}
		}
		checkCosts(t, c.p, numberOf(s))
	}
}

// costNamed returns the cost that is written as a digit or as anyCost.
func costNamed(text string) int {
	if text == "anyCost" {
		return anyCost
	}
	return int(text[0] - '0')
}

// Programs whose runs cost more than MaxSteps, and those whose choices make the more
// of a difference the longer they run.
func TestGreatCosts(t *testing.T) {
	t.Parallel()
	last := stateOf("222")
	for _, times := range []int{0, 1, 2, 10, 38, 39} {
		p := countingLoop(";axx", times)
		wantCostFrom(t, p, impl.State{}, 36+26*times, 36+26*times)
		wantCostBetween(t, p, impl.State{}, last, 36+26*times, 36+26*times)
		wantCostBetween(t, p, stateOf("122"), last, 1+times, 1+times)
		wantSlowest(t, p, impl.State{}, 36+26*times)
	}
	for _, times := range []int{1, 2, 10, 25, 26} {
		for _, choice := range []string{";/axxs", ";/saxx"} {
			p := countingLoop(choice, times)
			wantCostFrom(t, p, impl.State{}, 36, 36+26*times)
			wantGap(t, equalPairs, p, p, 26*times, "gap")
			wantTruth(t, "NeverDearer of "+p, impl.NeverDearer(p, countingLoop(";axx", times)), true)
			wantTruth(t, "NeverDearer than "+p, impl.NeverDearer(countingLoop(";axx", times), p), true)
		}
		wantTruth(t, "NeverDearer than fewer times", impl.NeverDearer(countingLoop(";axx", times), countingLoop(";axx", times-1)), false)
	}
	// A way back makes any cost of it.
	wantCostFrom(t, countingLoop(";/sax0", 1), impl.State{}, 36, anyCost)
	wantCostFrom(t, countingLoop(";/s;~=z2az1", 1), impl.State{}, 36, anyCost)
	wantCostFrom(t, countingLoop(";/s;~=z2az2", 1), impl.State{}, 36, 36+8)
}

func TestCostsAgainstTheModel(t *testing.T) {
	t.Parallel()
	list := append(costlyPrograms(160), programsToRun()...)
	list = append(list, someLoops()...)
	list = append(list, choosingPrograms()...)
	list = append(list, endlessPrograms()...)
	list = append(list, roundPrograms()...)
	seen := map[string]int{}
	for n, p := range list {
		checkCosts(t, p, n%27, (n+10)%27)
		least, greatest, _ := impl.CostFrom(p, allStates()[n%27])
		switch {
		case least == none:
			seen["none"]++
		case greatest == anyCost:
			seen["any"]++
		case greatest > least:
			seen["several"]++
		default:
			seen["one"]++
		}
	}
	for _, kind := range []string{"none", "any", "several", "one"} {
		if seen[kind] < 50 {
			t.Errorf("of only %d programs, the costs are %s", seen[kind], kind)
		}
	}
}

func TestCostsOfProgramsOfMaxText(t *testing.T) {
	t.Parallel()
	list := fullCostlyPrograms(60)
	for n, p := range list {
		if len(p) != 200 || !impl.ProgramValid(p) {
			t.Fatalf("%q of %d bytes should be a program of 200", p, len(p))
		}
		checkCosts(t, p, n%27, 0, 26)
		checkCostsOfTwo(t, p, list[(n+1)%len(list)], equalPairs, everyPair, someRels()[n%len(someRels())])
		for _, long := range []string{p + "s", ";s" + p, ";" + p + "s"} {
			checkNoCosts(t, long)
		}
	}
	for n, p := range fullPrograms() {
		checkCosts(t, p, n%27)
	}
}

func TestSlowestState(t *testing.T) {
	t.Parallel()
	cases := []struct {
		p, from string
		cost    int
	}{
		{"s", "000", 0}, {"ax1", "000", 1}, {"@<x2ax+x1", "000", 2}, {"?=y1;ax1ax2s", "010", 2}, {"?=z2ax1s", "002", 1}, {"?&=x2&=y2=z2ax1s", "222", 1}, {"?&=x2&=y2=z2sax1", "000", 1}, {"?=x0sax1", "100", 1}, {"?=x0ax1?=x1;ax1ax2;ax1ax2", "100", 2}, {"?=x0ax1?=x1;ax1ax2;ax1;ax1ax2", "200", 3}, {"@!=xyax+x1", "100", 2}, {"@<y2ay+y1", "000", 2}, {"/s?=x1ax2s", "100", 1}, {"/s;ax1ax2", "000", 2},
		// No run ends, from some states or from any.
		{"~f", "000", none}, {"@ts", "000", none}, {"@tax1", "000", none}, {"/~f@tax1", "000", none}, {"~=x2", "200", 0}, {"~=z2", "002", 0}, {"?=x0~fs", "100", 0}, {"?=x0@tax1s", "100", 0}, {"?=x0;ax1;ax1~f?=x1sax1", "200", 1}, {"?&=x2&=y2=z2s~f", "222", 0}, {"?&=x2&=y2=z2s@ts", "222", 0},
		// Any great cost is greater than all numbers.
		{"@=x2/ax2ax1", "200", anyCost}, {"@<x2/ax+x1ax0", "000", anyCost}, {"?=z2@=x0/ax0ax1;ax1;ax1ax1", "002", anyCost}, {"?=x0;ax1;ax1ax1@=x1/ax1ax2", "100", anyCost}, {"?=x1@=x1/ax1ax2?=x2@=x2/ax2ax0~f", "100", anyCost}, {"?=x0~f@=y2/ay2ay0", "120", anyCost}, {"?&=x2&=y2=z2@=x2/ax2ax1s", "222", anyCost}, {"?=x0s@!=x0/ax+x1ax-x1", "100", anyCost},
		{"@=x0/sax1", "000", 1}, {"?=x0@=x0/sax1;ax1ax1", "100", 2}, {"/ax1@tax1", "000", 1},
	}
	for _, c := range cases {
		wantSlowest(t, c.p, stateOf(c.from), c.cost)
		checkCosts(t, c.p, numberOf(stateOf(c.from)))
	}
	// From each state alone, and from all states but one.
	for _, s := range allStates() {
		test, other := testOf(s), impl.State{}
		if s == other {
			other.X = 1
		}
		wantSlowest(t, "?"+test+"ax1s", s, 1)
		wantSlowest(t, "?"+test+"s~f", s, 0)
		wantSlowest(t, "?"+test+"~fax1", other, 1)
		wantSlowest(t, "?"+test+"sax1", other, 1)
		wantSlowest(t, "?"+test+";ay1@=y1/ay1ay2;ax1;ax1;ax1ax1", s, anyCost)
	}
}

// testOf returns a test that is true in one state alone.
func testOf(s impl.State) string {
	text := impl.FormatState(s)
	return "&=x" + text[:1] + "&=y" + text[1:2] + "=z" + text[2:]
}

func TestCostGap(t *testing.T) {
	t.Parallel()
	cases := []struct {
		pre, p, q string
		gap       int
		kind      string
	}{
		{sameStates, "@<x2ax+x1", "ax2", 1, "gap"}, {sameStates, "s", "s", 0, "gap"}, {sameStates, "s", "ax2", -1, "gap"}, {sameStates, ";ax1;ax1ax1", "s", 3, "gap"}, {"t", "s", ";ax1;ax1ax1", -3, "gap"},
		// The greatest cost of one, and the least one of the other.
		{sameStates, "/s;ax1ax1", "/ax1;ax1;ax1ax1", 1, "gap"}, {sameStates, "/ax1;ax1;ax1ax1", "/s;ax1ax1", 3, "gap"}, {sameStates, "/sax1", "/sax1", 1, "gap"}, {"t", "/;ax1ax1~f", "/@ts;ax1ax1", 0, "gap"},
		// The greatest gap of several: of the first pair, of the last one, and of one between.
		{"t", "@<x2ax+x1", "@<x2ax+x1", 2, "gap"}, {"=xX", "@<x2ax+x1", "@<x2ax+x1", 0, "gap"}, {"=xY", "@<x2ax+x1", "@<y2ay+y1", 0, "gap"}, {"=xX", "@<x2ax+x1", "@<y2ay+y1", 2, "gap"}, {"<xX", "@<x2ax+x1", "@<x2ax+x1", 2, "gap"}, {"<Xx", "@<x2ax+x1", "@<x2ax+x1", -1, "gap"}, {"&<Xx!=X+2x", "@<x2ax+x1", "@<x2ax+x1", -2, "gap"}, {"=X+x1", "@<x2ax+x1", "@<x2ax+x1", 1, "gap"}, {sameStates, "?&=x2&=y2=z2ax1s", "s", 1, "gap"}, {sameStates, "?&=x0&=y0=z0ax1s", "s", 1, "gap"}, {sameStates, "?=y1ax1s", "s", 1, "gap"}, {sameStates, "s", "?=y1sax1", 0, "gap"}, {sameStates, "s", "?=y1ax1;ax1ax1", -1, "gap"}, {sameStates, "ax1", "?=z2;ax1;ax1ax1;ax1ax1", -1, "gap"},
		// No pairs, or none with runs.
		{"f", "s", "s", 0, "none"}, {"f", "@=x0/ax0ax1", "s", 0, "none"}, {"f", "~f", "@ts", 0, "none"}, {"t", "~f", "s", 0, "none"}, {"t", "s", "~f", 0, "none"}, {"t", "@ts", "ax1", 0, "none"}, {"t", "ax1", "@tax1", 0, "none"}, {"t", "@ts", "~f", 0, "none"}, {sameStates, "~=x1", "~=x2", 0, "none"}, {"=x0", "~=x1", "s", 0, "none"}, {"=X0", "s", "~=x1", 0, "none"}, {"&=x1=X1", "~=x1", "~=x2", 0, "none"},
		// Some pairs have none, and would be of a greater gap.
		{sameStates, "~=x1", ";ax1ax1", -2, "gap"}, {sameStates, ";ax1ax1", "~=x1", 2, "gap"}, {"t", "~=x1", "~=x2", 0, "gap"}, {sameStates, "?=x0;ax1;ax1ax1s", "~=x1", 0, "gap"}, {sameStates, "?=x0;ax1;ax1~fs", "ax1", -1, "gap"}, {"t", "?=x0@tax1s", "?=y0ax1~f", -1, "gap"},
		// Any great cost of the first one, and of the second one.
		{sameStates, "@<x2/ax+x1ax0", "s", 0, "any"}, {sameStates, "s", "@<x2/ax+x1ax0", 0, "gap"}, {sameStates, "@=x0/ax0ax1", "@=x0/ax0ax1", 0, "any"}, {"=x0", "s", "@=x0/ax0;ax1ax1", 0, "gap"}, {"=X0", "s", "@=x0/ax0;ax1ax1", -2, "gap"}, {"=X0", ";ax1;ax1ax1", "@=x0/ax0;ax1ax1", 1, "gap"}, {"=x0", "@=x0/ax0ax1", "ax1", 0, "any"}, {"=x1", "@=x0/ax0ax1", "ax1", -1, "gap"}, {"t", "?&=x2&=y2=z2@=x2/ax2ax1;ax1;ax1ax1", "s", 0, "any"}, {"t", "?&=x0&=y0=z0@=x0/ax0ax1;ax1;ax1ax1", "s", 0, "any"}, {sameStates, "?=y1@=x1/ax1ax0s", "s", 0, "any"},
		// It does not count where the other one has no runs.
		{sameStates, "@=x0/ax0ax1", "~=x1", 0, "gap"}, {sameStates, "@=x0/ax0ax1", "~=x0", 0, "any"}, {sameStates, "@=x0/ax0ax1", "~f", 0, "none"}, {"=x0", "@=x0/ax0ax1", "@ts", 0, "none"}, {"&=x0=X1", "@=x0/ax0ax1", "~=x0", 0, "none"}, {"!=xX", "@=x0/ax0ax1", "~=x0", 0, "gap"}, {"!=xX", "@=x0/ax0ax1", "?=x0ax1~f", -1, "gap"},
	}
	for _, c := range cases {
		wantGap(t, modelRelOf(c.pre), c.p, c.q, c.gap, c.kind)
		checkCostsOfTwo(t, c.p, c.q, modelRelOf(c.pre))
	}
}

// From each pair of states alone.
func TestCostGapOfOnePair(t *testing.T) {
	t.Parallel()
	const p, q = "?=y0@<x2ax+x1;~<z2;ax1@=x1/sax0", ";@<y2ay+y1?=x1~fs"
	for k := range 729 {
		i, j := k/27, k%27
		s, to := allStates()[i], allStates()[j]
		gap, kind := 0, "gap"
		switch {
		case s.Y != 0 && s.Z == 2 || to.X == 1:
			kind = "none"
		case s.Y == 0:
			gap = to.Y - s.X
		default:
			gap = to.Y
		}
		wantGap(t, singlePair(i, j), p, q, gap, kind)
		checkCostsOfTwo(t, p, q, singlePair(i, j))
	}
}

func TestConstantCost(t *testing.T) {
	t.Parallel()
	const all, withX, withY, withXY = " x y z xy xz yz xyz", "x xy xz xyz", "y xy yz xyz", "xy xyz"
	cases := []struct{ p, constant string }{
		{"s", all}, {"ax1", all}, {";ax1;ay+x1az*xy", all}, {"@<x2ax+x1", withX}, {"?=y0sax1", withY}, {"?=xysaz1", withXY}, {"?=z2;ax1ax1s", "z xz yz xyz"}, {"?=xzsax1", "xz xyz"}, {"?=yzax1s", "yz xyz"}, {"?&=x0&=y0=z0sax1", "xyz"}, {"?&=x2&=y2=z2sax1", "xyz"}, {"?=+x+yz0sax1", "xyz"}, {"@!=xyax+x1", withXY}, {"?=x0ax1az2", all}, {"?=x0;ax1ax1;ay1ay1", all}, {"?=x0ax1;ax1ax1", withX}, {"@<x2;ax+x1@<y2ay+y1", withXY},
		// One state has runs of different costs.
		{"/sax1", "-"}, {"/ax1ax2", all}, {"/ax1;ax1ax1", "-"}, {"?&=x0&=y0=z0/sax1s", "-"}, {"?&=x2&=y2=z2/sax1s", "-"}, {"?=x1/ax1;ax1ax1ax1", "-"}, {"/ax1~f", all}, {"/ax1@tax1", all}, {"/s~=x0", all}, {"/;~=x0ax1;~=x1ax1", all}, {"/;~=x0ax1;~!=x0;ax1ax1", withX}, {"/;~=x0ax1;~!=x1;ax1ax1", "-"}, {"?=x0/say1ax1", "-"},
		// Of any great cost.
		{"@=x0/ax0ax1", "-"}, {"?&=x0&=y0=z0@=x0/ax0ax1s", "-"}, {"?&=x2&=y2=z2@=x2/ax2ax1s", "-"}, {"@t/ax0~f", all}, {"/s@t/ax0~f", all}, {"@=x0/sax1", withX}, {";ax0@=x0/sax1", all}, {"?=x0@=x0/sax1ay1", all},
		// States without runs that end do not count.
		{"~f", all}, {"@ts", all}, {"@tax1", all}, {"/~f@tax1", all}, {"~=x1", all}, {";~=x1ax1", all}, {"?=x0~fax1", all}, {"?=x0;ax1~fs", all}, {"?=x0@tax1s", all}, {"?=x0~f?=x1sax1", withX}, {"?=x0~f?=y1sax1", withY}, {"?&=x0=y0~f@<y2ay+y1", withY}, {";~=x1?=y1sax1", withY}, {";~&=x1=z1?=y1sax1", withY}, {";~|&=x0=y0&=x1=y1@<x2ax+x1", withX + " " + "y yz"}, {";~=xy@<x2ax+x1", "x y xy xz yz xyz"},
	}
	for _, c := range cases {
		for _, vars := range lettersToAgreeOn() {
			want := slices.Contains(strings.Split(c.constant, " "), vars)
			wantTruth(t, "ConstantCost of "+c.p+", "+vars, impl.ConstantCost(c.p, vars), want)
		}
		checkCosts(t, c.p, 0)
	}
}

func TestNeverDearer(t *testing.T) {
	t.Parallel()
	cases := []struct {
		p, q        string
		forth, back bool
	}{
		{"s", "s", true, true}, {"ax2", ";ax1ax2", true, false}, {"ax1", "ay+y1", true, true}, {"s", "ax1", true, false}, {"@<x2ax+x1", ";ax2ax2", true, false}, {"@<x2ax+x1", "ax2", false, false}, {"?=x0ax1s", "?=x0sax1", false, false}, {"?=x0ax1s", "?=x0;ax1ax1s", true, false},
		// From the first state or from the last one alone.
		{"?&=x0&=y0=z0ax1s", "s", false, true}, {"?&=x2&=y2=z2ax1s", "s", false, true}, {"?&=x1&=y1=z1sax1", "ax1", true, false}, {"?&=x0&=y0=z0ax1s", "?&=x2&=y2=z2ax1s", false, false},
		// The greatest cost counts.
		{"/sax1", "ax1", true, true}, {"/s;ax1ax1", "ax1", false, true}, {"/ax1;ax1ax1", "/s;ax1ax1", true, true}, {"/ax1~f", "ax1", true, true}, {"/ax1@t;ax1ax1", "ax1", true, true}, {"@=x0/sax1", "?=x0ax1s", true, true},
		// No runs are less than no cost, and any great cost is more than all costs.
		{"@ts", "s", true, false}, {"~f", "s", true, false}, {"~f", "@tax1", true, true}, {"~=x1", "s", true, false}, {"~=x1", "~=y1", false, false}, {"~=x1", ";~=x1ax1", true, false}, {"~=x1", "?=x1ax1~f", true, false}, {"@=x0/ax0ax1", "s", false, true}, {"?=x0ax1s", "@=x0/ax0ax1", true, false}, {"s", "?=x0@=x0/ax0ax1s", true, false}, {"@=x0/ax0ax1", "@=x0/ax0ax1", true, true}, {"@=x0/ax0ax1", "@=x0/s/ax0ax1", true, true}, {"@=x0/ax0ax1", "@=x0/ax0;ax1ax1", true, true}, {"~f", "@=x0/ax0ax1", true, false}, {"@ts", "@<x2/ax+x1ax0", true, false}, {"?=x0~f;ax1ax1", "?=x0@=x0/ax0ax1;ax1ax1", true, false}, {"?=x0@=x0/ax0ax1~f", "?=x0;ax1;ax1ax1~f", false, true}, {"?=x0@=x0/ax0ax1~f", "?=x0;ax1;ax1ax1s", false, false}, {";;ax1ax1;ax1ax1", "@=x0/ax0ax1", false, false}, {countingLoop(";axx", 39), "@!&=x2&=y2=z2/axx;ax2;ay2az2", true, false},
	}
	for _, c := range cases {
		wantTruth(t, "NeverDearer of "+c.p+" and "+c.q, impl.NeverDearer(c.p, c.q), c.forth)
		wantTruth(t, "NeverDearer of "+c.q+" and "+c.p, impl.NeverDearer(c.q, c.p), c.back)
		checkCostsOfTwo(t, c.p, c.q, equalPairs, everyPair)
	}
}

func TestCostsOfTwoAgainstTheModel(t *testing.T) {
	t.Parallel()
	rels := someRels()
	programs := append(costlyPrograms(30), choosingPrograms()...)
	programs = append(programs, roundPrograms()...)
	programs = append(programs, endlessPrograms()...)
	programs = append(programs, someLoops()...)
	seen := map[string]int{}
	for n, p := range programs {
		for k := range 3 {
			q := programs[(n*31+k*17+5)%len(programs)]
			pre := rels[(n+k*13)%len(rels)]
			checkCostsOfTwo(t, p, q, pre, equalPairs)
			_, kind := impl.CostGap(pre, p, q)
			seen[kind]++
			seen[map[bool]string{true: "never", false: "dearer"}[impl.NeverDearer(p, q)]]++
		}
	}
	for _, kind := range []string{"none", "any", "gap", "never", "dearer"} {
		if seen[kind] < 100 {
			t.Errorf("only %d pairs of programs are of %s", seen[kind], kind)
		}
	}
}

// costsOrder returns a number by which costs are ordered: CostAny is greater than all
// numbers, and CostNone less.
func costsOrder(cost int) int {
	if cost == anyCost {
		return 1 << 40
	}
	return cost
}

// liesBetween reports whether a cost is one between a least and a greatest one.
func liesBetween(cost, least, greatest int) bool {
	return 0 <= least && least <= cost && cost <= costsOrder(greatest)
}

// Promise 12: every run that ends costs what is told, of its final state and of all.
func TestEveryRunCostsWhatIsTold(t *testing.T) {
	t.Parallel()
	picks := append(allPicks(5), "01101001100101101001011001101001", strings.Repeat("0", 400), strings.Repeat("1", 400), strings.Repeat("01", 200), strings.Repeat("0", 50)+"1")
	ended := 0
	for n, p := range append(fewStatements(), costlyPrograms(60)...) {
		for _, i := range []int{n % 27, (n + 11) % 27} {
			s := allStates()[i]
			least, greatest, ok := impl.CostFrom(p, s)
			for _, pick := range picks {
				to, steps, code := impl.ReplayRun(p, s, pick, 300)
				cost, counted := impl.CountedRun(p, s, pick)
				if counted != (code == impl.RunDone) || !ok || !counted && cost != 0 {
					t.Fatalf("CountedRun(%q, %v, %.40q) = %d, %v, but the run ends with %d", p, s, pick, cost, counted, code)
				}
				if !counted {
					continue
				}
				ended++
				low, high, _ := impl.CostBetween(p, s, to)
				if cost > steps || !liesBetween(cost, least, greatest) || !liesBetween(cost, low, high) {
					t.Fatalf("CountedRun(%q, %v, %.40q) = %d, but CostFrom returns %d, %d, and CostBetween %d, %d", p, s, pick, cost, least, greatest, low, high)
				}
			}
		}
	}
	if ended < 1000 {
		t.Errorf("only %d runs end", ended)
	}
}

// rangeOf returns the least and the greatest one of some costs, CostNone if there are
// none.
func rangeOf(costs []int) (int, int) {
	if len(costs) == 0 {
		return none, none
	}
	return slices.Min(costs), slices.Max(costs)
}

// Promise 12: without loops, some run costs the least, and some the greatest cost. Each
// run needs no more picks than there are choices.
func TestTheLeastAndTheGreatestCostAreThoseOfRuns(t *testing.T) {
	t.Parallel()
	several := 0
	for n, p := range append(costlyPrograms(160), fewStatements()...) {
		if impl.LoopCount(p) > 0 || strings.Count(p, "/") > 6 {
			continue
		}
		for _, s := range []impl.State{allStates()[n%27], allStates()[(n+11)%27]} {
			var all []int
			costs := map[impl.State][]int{}
			for _, pick := range allPicks(strings.Count(p, "/")) {
				if cost, ok := impl.CountedRun(p, s, pick); ok {
					to, _, _ := impl.ReplayRun(p, s, pick, 300)
					costs[to] = append(costs[to], cost)
					all = append(all, cost)
				}
			}
			for _, to := range allStates() {
				least, greatest := rangeOf(costs[to])
				wantCostBetween(t, p, s, to, least, greatest)
			}
			least, greatest := rangeOf(all)
			wantCostFrom(t, p, s, least, greatest)
			if least < greatest {
				several++
			}
		}
	}
	if several < 50 {
		t.Errorf("only from %d states, runs have different costs", several)
	}
}

// Promise 12: a program without choices has one run from each state, and this alone
// costs something, if it ends.
func TestTheOnlyRunCostsWhatIsTold(t *testing.T) {
	t.Parallel()
	for _, p := range append(costlyPrograms(100), fewStatements()...) {
		if strings.Contains(p, "/") {
			continue
		}
		for _, s := range allStates() {
			to, _, code := impl.ReplayRun(p, s, "", 300)
			cost, ok := impl.CountedRun(p, s, "")
			switch {
			case ok:
				wantCostFrom(t, p, s, cost, cost)
				wantCostBetween(t, p, s, to, cost, cost)
			case code == impl.RunBlocked || impl.SizeOf(p) <= 11:
				wantCostFrom(t, p, s, none, none)
			}
		}
	}
}

// Promise 12: where costs may be any, there are runs that go round and cost more and
// more. Those that go round without a cost all cost the same.
func TestRunsThatGoRound(t *testing.T) {
	t.Parallel()
	cases := []struct {
		p, round, leave string
		first, each     int
	}{
		{"@=x0/ax0ax1", "0", "1", 1, 1}, {"@=x0/;ax0ax0ax1", "0", "1", 1, 2}, {"@=x0/s/ax0ax1", "10", "11", 1, 1}, {"@<x2/ax+x1ax0", "1", "00", 2, 1}, {"@<x2/ax+x1ax0", "01", "00", 2, 2}, {";az1;@=x0/ax0ax1az2", "0", "1", 3, 1}, {"@=x0/ay+y1ax1", "000", "1", 1, 3}, {"@<x2;ax+x1;ay0@=y0/ay0ay1", "0", "11", 6, 1}, {"@<x2/ax+x1/ax0s", "010", "00", 2, 2}, {"@=x0@=x0/;axxaxxax1", "0", "1", 1, 2},
		{"@=x0/sax1", "0", "1", 1, 0}, {";az1;@=x0/sax1az2", "0", "1", 3, 0}, {"@<x2/ax+x1s", "1", "00", 2, 0}, {"@=x0/s/sax1", "010", "11", 1, 0}, {"@<x2;ax+x1;ay0@=y0/say1", "00", "11", 6, 0}, {"@=x0@=x0/~tax1", "0", "1", 1, 0}, {"@=x0@=x0/@<1xax0ax1", "0", "1", 1, 0},
	}
	for _, c := range cases {
		greatest := anyCost
		if c.each == 0 {
			greatest = c.first
		}
		wantCostFrom(t, c.p, impl.State{}, c.first, greatest)
		for times := range 20 {
			wantCounted(t, c.p, impl.State{}, strings.Repeat(c.round, times)+c.leave, c.first+c.each*times, true)
		}
	}
}

// addCosts returns the sum of two costs, either of which may be CostAny.
func addCosts(a, b int) int {
	if a == anyCost || b == anyCost {
		return anyCost
	}
	return a + b
}

// costsInSequence returns what a program costs behind another one, by the costs of both
// from and to each state between.
func costsInSequence(p, q string, s, to impl.State) (int, int) {
	least, greatest := none, none
	ends, _ := impl.RunsFrom(p, s)
	for _, between := range allStates() {
		if !impl.HasState(ends.Finals, between) {
			continue
		}
		low, high, _ := impl.CostBetween(p, s, between)
		low2, high2, _ := impl.CostBetween(q, between, to)
		if low2 == none {
			continue
		}
		if least == none || low+low2 < least {
			least = low + low2
		}
		if all := addCosts(high, high2); costsOrder(all) > costsOrder(greatest) {
			greatest = all
		}
	}
	return least, greatest
}

// Promise 12: costs of sequences add up.
func TestCostsOfSequencesAddUp(t *testing.T) {
	t.Parallel()
	list := append(choosingPrograms(), endlessPrograms()[:8]...)
	list = append(list, programsOfEveryKind()...)
	list = append(list, roundPrograms()...)
	list = append(list, "@=x0/sax1", ";~=x1;ax1ax1", "/s;ax1;ax2ax0", countingLoop(";axx", 5))
	for n, p := range costlyPrograms(60) {
		if len(p) < 90 && n%2 == 0 {
			list = append(list, p)
		}
	}
	seen := map[bool]int{}
	for n, p := range list {
		for k := range 3 {
			q := list[(n*7+k*19+3)%len(list)]
			joined, ok := impl.JoinPrograms(p, q)
			if !ok {
				continue
			}
			for _, s := range []impl.State{{}, allStates()[(n+k*9)%27]} {
				for _, to := range allStates() {
					least, greatest := costsInSequence(p, q, s, to)
					wantCostBetween(t, joined, s, to, least, greatest)
					seen[greatest == anyCost]++
				}
			}
			checkCountedInSequence(t, p, q, joined, allStates()[(n+k*9)%27])
		}
	}
	if seen[true] < 100 || seen[false] < 100 {
		t.Errorf("the greatest cost is any %d times, and a number %d times", seen[true], seen[false])
	}
}

// checkCountedInSequence lets one run go on where another one has ended, as far as this
// is told by the first picks to each state.
func checkCountedInSequence(t *testing.T, p, q, joined string, s impl.State) {
	t.Helper()
	for _, between := range allStates() {
		first, ok := impl.PicksTo(p, s, between)
		if !ok {
			continue
		}
		cost, _ := impl.CountedRun(p, s, first)
		_, steps, _ := impl.ReplayRun(p, s, first, 300)
		for _, second := range allPicks(2) {
			more, ok := impl.CountedRun(q, between, second)
			_, moreSteps, _ := impl.ReplayRun(q, between, second, 300)
			if ok && steps+moreSteps <= 300 {
				wantCounted(t, joined, s, first+second, cost+more, true)
			} else {
				wantCounted(t, joined, s, first+second, 0, false)
			}
		}
	}
}

// What is told of costs, by each function, is told by the others, too.
func TestCostsAgreeWithEachOther(t *testing.T) {
	t.Parallel()
	list := append(costlyPrograms(40), someLoops()...)
	list = append(list, roundPrograms()...)
	for n, p := range append(list, endlessPrograms()...) {
		if len(p) > 196 {
			continue
		}
		var least, greatest [27]int
		slowest := 0
		for i, s := range allStates() {
			least[i], greatest[i], _ = impl.CostFrom(p, s)
			if costsOrder(greatest[i]) > costsOrder(greatest[slowest]) {
				slowest = i
			}
			r, _ := impl.RunsFrom(p, s)
			wantTruth(t, "whether there are no costs of "+p+" from "+impl.FormatState(s), least[i] == none, r.Finals == noStates)
			if i == n%27 {
				checkCostsBetween(t, p, s, r.Finals)
			}
		}
		wantSlowest(t, p, allStates()[slowest], greatest[slowest])
		constant := true
		for i := range least {
			wantTruth(t, "whether CostNone is both costs of "+p, least[i] == none, greatest[i] == none)
			constant = constant && least[i] == greatest[i]
			if least[i] != none && greatest[i] != anyCost {
				wantGap(t, singlePair(i, i), p, p, greatest[i]-least[i], "gap")
			}
		}
		wantTruth(t, "ConstantCost of "+p+" and all letters", impl.ConstantCost(p, "xyz"), constant)
		wantTruth(t, "NeverDearer of "+p+" and itself", impl.NeverDearer(p, p), true)
		wantTruth(t, "NeverDearer of "+p+" and what costs one more", impl.NeverDearer(p, ";axx"+p), true)
		wantTruth(t, "NeverDearer of what costs one more and "+p, impl.NeverDearer(";axx"+p, p), !slices.ContainsFunc(greatest[:], func(cost int) bool { return cost >= 0 }))
	}
}

// checkCostsBetween checks that what runs to all final states cost is what all runs
// cost, and that there are costs of no other states.
func checkCostsBetween(t *testing.T, p string, s impl.State, finals string) {
	t.Helper()
	least, greatest := none, none
	for _, to := range allStates() {
		low, high, _ := impl.CostBetween(p, s, to)
		wantTruth(t, "whether there are costs of "+p+" to "+impl.FormatState(to), low != none, impl.HasState(finals, to))
		if low != none && (least == none || low < least) {
			least = low
		}
		if costsOrder(high) > costsOrder(greatest) {
			greatest = high
		}
	}
	wantCostFrom(t, p, s, least, greatest)
}

// checkNoCosts checks every result that the chapter states for a text that is no
// program.
func checkNoCosts(t *testing.T, p string) {
	t.Helper()
	for _, s := range []impl.State{{}, stateOf("121"), {X: 3}} {
		least, greatest, ok := impl.CostFrom(p, s)
		wantCosts(t, "CostFrom of what is no program", least, greatest, ok, 0, 0, false)
		least, greatest, ok = impl.CostBetween(p, s, s)
		wantCosts(t, "CostBetween of what is no program", least, greatest, ok, 0, 0, false)
		for _, picks := range []string{"", "0", "01", "2"} {
			wantCounted(t, p, s, picks, 0, false)
		}
	}
	wantSlowest(t, p, impl.State{}, -3)
	for _, vars := range []string{"", "x", "xyz", "yx"} {
		wantTruth(t, "ConstantCost of what is no program", impl.ConstantCost(p, vars), false)
	}
	for _, q := range []string{"s", "~f", p} {
		for _, pre := range []string{equalPairs, noPairs, everyPair, ""} {
			wantGap(t, pre, p, q, 0, "")
			wantGap(t, pre, q, p, 0, "")
		}
		wantTruth(t, "NeverDearer of what is no program", impl.NeverDearer(p, q), false)
		wantTruth(t, "NeverDearer than what is no program", impl.NeverDearer(q, p), false)
	}
}

func TestCostsOfWhatIsNoProgram(t *testing.T) {
	t.Parallel()
	for _, p := range append(textsThatAreNoPrograms(), onlyWidePrograms()...) {
		checkNoCosts(t, p)
	}
}

func TestCostsOfInvalidArguments(t *testing.T) {
	t.Parallel()
	programs := []string{"s", ";s/ax1ax2", "~f", "@ts", "@=x0/ax0ax1"}
	for _, p := range programs {
		for _, s := range brokenStates() {
			least, greatest, ok := impl.CostFrom(p, s)
			wantCosts(t, "CostFrom of no state", least, greatest, ok, 0, 0, false)
			for _, both := range [][2]impl.State{{s, {}}, {{}, s}, {s, s}, {s, stateOf("222")}, {stateOf("222"), s}} {
				least, greatest, ok = impl.CostBetween(p, both[0], both[1])
				wantCosts(t, "CostBetween of no state", least, greatest, ok, 0, 0, false)
			}
			wantCounted(t, p, s, "1", 0, false)
		}
		for _, q := range programs {
			for _, pre := range brokenRels() {
				wantGap(t, pre, p, q, 0, "")
			}
		}
		for _, vars := range append(brokenAgreements(), brokenLetters()[1:]...) {
			if !slices.Contains(lettersToAgreeOn(), vars) {
				wantTruth(t, "ConstantCost of "+p+" and what are no letters, "+vars, impl.ConstantCost(p, vars), false)
			}
		}
	}
}

func TestCountedRunsOfInvalidPicks(t *testing.T) {
	t.Parallel()
	const p = ";s/ax1ax2"
	wantCounted(t, p, impl.State{}, "1", 1, true)
	for b := range 256 {
		letter := string([]byte{byte(b)})
		if letter == "0" || letter == "1" {
			continue
		}
		for _, picks := range []string{letter, "1" + letter, letter + "1", "10" + letter, "1" + letter + "1", "0101" + letter + "01"} {
			wantCounted(t, p, stateOf("111"), picks, 0, false)
			wantCounted(t, "ax1", stateOf("111"), picks, 0, false)
		}
	}
	for _, picks := range []string{"é", "0é1", "１", "01\xff", strings.Repeat("01", 5000) + "2", "x", "2"} {
		wantCounted(t, p, stateOf("111"), picks, 0, false)
	}
	// What is left over has to be picks, too, and may be long.
	wantCounted(t, p, stateOf("111"), strings.Repeat("01", 5000), 1, true)
}

// The given examples.
func TestExamplesOfCosts(t *testing.T) {
	const p = "@<x2ax+x1"
	for _, s := range allStates() {
		wantCostFrom(t, p, s, 2-s.X, 2-s.X)
	}
	wantTruth(t, "ConstantCost of the example, x", impl.ConstantCost(p, "x"), true)
	wantTruth(t, "ConstantCost of the example, y", impl.ConstantCost(p, "y"), false)
}
