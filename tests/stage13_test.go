package tests

import (
	"math"
	"slices"
	"strconv"
	"strings"
	"testing"

	"loop.example/productprograms/impl"
)

func TestConstantsOfStage13(t *testing.T) {
	if got := [3]int{impl.MaxScript, impl.MaxLines, impl.MaxOutput}; got != [3]int{20000, 100, 40000} {
		t.Errorf("the constants are %v", got)
	}
}

func TestFormatStates(t *testing.T) {
	t.Parallel()
	cases := map[string]string{
		noStates: "-", single(0): "000", single(1): "100", single(3): "010", single(9): "001", single(26): "222", "110000000000000000000000000": "000 100", "100000000000000000000000001": "000 222",
		modelPredOf("&=x1=y0"): "100 101 102", modelPredOf("=z2"): "002 102 202 012 112 212 022 122 222", modelPredOf("&=x2=yz"): "200 211 222",
		everyState: "000 100 200 010 110 210 020 120 220 001 101 201 011 111 211 021 121 221 002 102 202 012 112 212 022 122 222",
	}
	for p, want := range cases {
		if got := impl.FormatStates(p); got != want {
			t.Errorf("FormatStates(%q) = %q, want %q", p, got, want)
		}
	}
	for _, p := range someSets() {
		if got := impl.FormatStates(p); got != modelStates(p) {
			t.Errorf("FormatStates(%q) = %q, want %q", p, got, modelStates(p))
		}
	}
	for _, p := range brokenSets() {
		if got := impl.FormatStates(p); got != "" {
			t.Errorf("FormatStates(%.100q) = %q", p, got)
		}
	}
}

func TestFormatDerivation(t *testing.T) {
	t.Parallel()
	cases := []struct {
		list []impl.Line
		want string
	}{
		{nil, "-"}, {[]impl.Line{}, "-"}, {[]impl.Line{{Rule: "set"}}, "set"}, {[]impl.Line{{Rule: "weak", Refs: []int{0}}}, "weak,0"}, {[]impl.Line{{Rule: "if", Refs: []int{1, 3, 5, 7}}}, "if,1,3,5,7"},
		{[]impl.Line{{Rule: "set"}, {Rule: "run"}, {Rule: "seq", Refs: []int{1, 0}}}, "set run seq,1,0"}, {[]impl.Line{{Rule: "set", Refs: []int{}}, {Rule: "set", Pre: everyPair, P: "s", Q: "s", Post: everyPair}}, "set set"},
		// Lines that are not valid: of a rule that is none, with other texts in their place, and with Refs that name nothing.
		{[]impl.Line{{}}, ""}, {[]impl.Line{{}, {}}, " "}, {[]impl.Line{{Refs: []int{4}}}, ",4"}, {[]impl.Line{{Rule: "-"}}, "-"}, {[]impl.Line{{Rule: "foo", Pre: "x", P: "y", Q: "z", Post: "1"}, {Rule: "SET"}}, "foo SET"}, {[]impl.Line{{Rule: "a b,c\n\xff\x00é"}, {Rule: " "}}, "a b,c\n\xff\x00é  "},
		{[]impl.Line{{Rule: "set", Refs: []int{0, 0}}, {Rule: "if"}, {Rule: "seq", Refs: []int{7}}}, "set,0,0 if seq,7"},
		{[]impl.Line{{Rule: "weak", Refs: []int{-1}}, {Rule: "seq", Refs: []int{-10, 10}}, {Rule: "split", Refs: []int{0, -0}}}, "weak,-1 seq,-10,10 split,0,0"},
		{[]impl.Line{{Rule: "run", Refs: []int{math.MaxInt, math.MinInt, 60, 1000000, -1000001}}}, "run,9223372036854775807,-9223372036854775808,60,1000000,-1000001"},
	}
	for _, c := range cases {
		before := copyOf(c.list)
		if got := impl.FormatDerivation(c.list); got != c.want {
			t.Errorf("FormatDerivation(%s) = %q, want %q", shownLines(c.list), got, c.want)
		}
		if !slices.EqualFunc(before, c.list, sameLine) {
			t.Errorf("FormatDerivation changes %s into %s", shownLines(before), shownLines(c.list))
		}
	}
}

func TestFormatDerivationAgainstTheModel(t *testing.T) {
	t.Parallel()
	for n, both := range programsToDerive() {
		list, ok := impl.BuildDerivation(both[0], both[1], someRels()[n%len(someRels())])
		if got := impl.FormatDerivation(list); got != modelLines(list) || (got == "-") == ok {
			t.Errorf("FormatDerivation(%s) = %q, want %q", shownLines(list), got, modelLines(list))
		}
	}
	// Many lines, and many Refs.
	var list []impl.Line
	for n := range 70 {
		list = append(list, impl.Line{Rule: "weak", Refs: []int{n - 35}})
	}
	if got := impl.FormatDerivation(list); got != modelLines(list) || strings.Count(got, " ") != 69 {
		t.Errorf("FormatDerivation of many lines = %q", got)
	}
	many := []impl.Line{{Rule: "seq", Refs: make([]int, 200000)}}
	if got := impl.FormatDerivation(many); got != "seq"+strings.Repeat(",0", 200000) {
		t.Errorf("FormatDerivation of many Refs = %.100q", got)
	}
}

func TestDeskAtFirst(t *testing.T) {
	t.Parallel()
	cases := map[string]string{
		"left": "s", "right": "s", "pre": "&=xX&=yY&=zZt", "post": "&=xX&=yY&=zZt", "left ax1": "ok", "right ax1": "ok", "pre =xX": "ok", "post =xX": "ok", "from 012": "ok", "to 012": "ok", "show": "skip",
		"run": "000 1 done", "run ": "000 1 done", "run 01": "000 1 done", "finals": "000", "picks": "-", "ends =x1": "100 110 120 101 111 121 102 112 122", "free &=x1=y2": "120 121 122", "total &=x1&=y1=z1": "111", "ends f": "-",
		"triple =x1 =x1": "true", "triple =x1 =x2": "false", "counter =x1 =x1": "none", "counter =x1 =x2": "100 100", "strongest t": "no", "weakest t": "no", "turns": "no",
		"same": "true", "refines": "true", "commute": "true", "differ": "none", "affected": "-", "depends x": "x", "depends y": "y", "depends z": "z", "holds": "true", "matches": "true", "together": "true", "against": "none",
		"product": ";ss", "align b": ";ss", "align lr": ";ss", "align rl": ";ss", "align l": "no", "align ll": "no", "proves": "true", "derive": "set",
		"tidy": "s", "fold": "s", "unroll": "no", "swap": "no", "push": "no", "sets": "no", "rewrite skips": "s", "rewrite flat": "s", "rewrite unroll": "s", "rewrite swap": "s", "rewrite push": "s", "rewrite sets": "s", "rewrite tidy": "no",
		"exchange": "s", "cost": "0 0", "slowest": "000 0", "gap": "0", "dearer": "false", "constant ": "true", "constant xyz": "true",
	}
	for line, want := range cases {
		wantScript(t, line, want+"\n")
		wantScript(t, line+"\n", want+"\n")
		if model := modelScript(line); model != want+"\n" {
			t.Errorf("the model tells %q of %q", model, line)
		}
	}
	for _, word := range wordsAlone() {
		if _, ok := cases[word]; !ok {
			t.Errorf("%q is not looked at", word)
		}
	}
}

// What is put in its place stays there, and is what other lines tell of.
func TestWhatIsKept(t *testing.T) {
	t.Parallel()
	wantTold(t, "left ax1", "ok", "left", "ax1", "right", "s", "right ay2", "ok", "left", "ax1", "right", "ay2", "left s", "ok", "left", "s", "right", "ay2")
	wantTold(t, "pre =xX", "ok", "pre", "=xX", "post", equalAtFirst, "post <yZ", "ok", "pre", "=xX", "post", "<yZ", "pre f", "ok", "pre", "f", "post", "<yZ")
	wantTold(t, "from 012", "ok", "run", "012 1 done", "to 121", "ok", "run", "012 1 done", "picks", "no", "to 012", "ok", "picks", "-", "from 121", "ok", "run", "121 1 done", "picks", "no")
	wantTold(t, "from 120", "ok", "left ax2", "ok", "run", "220 1 done", "run", "220 1 done", "finals", "220", "to 220", "ok", "picks", "-", "cost", "1 1", "left ay0", "ok", "finals", "100")
	// All texts of 200 bytes.
	for _, p := range fullPrograms() {
		wantTold(t, "left "+p, "ok", "left", p, "right", "s", "right "+p, "ok", "right", p, "exchange", p, "left", p)
	}
	for _, w := range []string{strings.Repeat("!", 199) + "t", "!" + longWide(199)} {
		wantTold(t, "pre "+w, "ok", "pre", w, "post", equalAtFirst, "post "+w, "ok", "post", w)
		wantTold(t, "pre !"+w, "no", "pre", equalAtFirst, "post !"+w, "no", "post", equalAtFirst)
	}
	for _, p := range fullPrograms() {
		wantTold(t, "left ax1", "ok", "left ;s"+p, "no", "left", "ax1", "right ;s"+p, "no", "right", "s")
	}
}

// Lines that only tell change nothing, nor do lines that write `no` or `what`.
func TestWhatChangesNothing(t *testing.T) {
	t.Parallel()
	before := []string{"left ?<x2ax+xys", "ok", "right @<y2ay+y1", "ok", "pre <xX", "ok", "post !=xY", "ok", "from 100", "ok", "to 120", "ok"}
	after := []string{"left", "?<x2ax+xys", "right", "@<y2ay+y1", "pre", "<xX", "post", "!=xY", "run", "100 2 done", "picks", "no", "exchange", "@<y2ay+y1", "run", "120 5 done", "picks", "-"}
	telling := map[string]string{
		"show": "if x<2 {x:=(x+y)} else {skip}", "finals": "100", "ends =x1": "100 210 020 101 211 021 102 212 022", "triple t t": "true", "counter t f": "000 000", "product": ";?<x2ax+xys@<Y2aY+Y1", "align lr": ";?<x2ax+xys@<Y2aY+Y1", "align l": "no",
		"derive": "run", "holds": "false", "against": "110 200 210 220", "proves": "false", "cost": "1 1", "slowest": "000 1", "gap": "1", "dearer": "true", "constant x": "true", "affected": "xy", "depends x": "xy", "turns": "no", "strongest t": "no", "run 0": "100 2 done", "differ": "000 finals",
		// A transformation that cannot be applied leaves the program.
		"unroll": "no", "push": "no", "sets": "no", "rewrite what": "no",
		"left ax3": "no", "right ": "no", "pre x": "no", "post =x": "no", "from 300": "no", "to 00": "no", "ends x": "no", "depends xy": "no", "constant zz": "no", "triple t x": "no",
		"Left s": "what", "left\ts": "what", " left s": "what", "exchange ": "what", "exchange s": "what", "tidy s": "what", "swap ": "what", "from": "what",
	}
	for line, want := range telling {
		wantTold(t, slices.Concat(before, []string{line, want}, after)...)
	}
}

func TestRunsOfTheDesk(t *testing.T) {
	t.Parallel()
	wantTold(t, "left ax+x1", "ok", "run", "100 1 done", "from 210", "ok", "run", "010 1 done", "run 01", "010 1 done")
	wantTold(t, "left /ax1ax2", "ok", "run", "000 0 asks", "run ", "000 0 asks", "run 0", "100 1 done", "run 1", "200 1 done", "run 01", "100 1 done", "run 1000", "200 1 done")
	wantTold(t, "left ;/ax1ax2;/ssay1", "ok", "run", "000 0 asks", "run 0", "100 1 asks", "run 01", "110 3 done", "run 011", "110 3 done", "run 1", "200 1 asks", "from 222", "ok", "run", "222 0 asks", "run 0", "122 1 asks")
	wantTold(t, "left ~f", "ok", "run", "000 0 blocked", "run 1", "000 0 blocked", "left ;ax1~f", "ok", "run", "100 1 blocked", "left /~fs", "ok", "run", "000 0 asks", "run 0", "000 0 blocked", "run 1", "000 1 done")
	wantTold(t, "left @ts", "ok", "run", "000 100 busy", "run 1", "000 100 busy", "from 012", "ok", "run ", "012 100 busy", "left @tax+x1", "ok", "run", "212 100 busy")
	for _, picks := range []string{"2", "x", "-", "0 1", "0 ", " 0", " ", "01\r", "\t", "é", "0\xff", "10a", "00000000000000000002"} {
		wantTold(t, "left /ax1ax2", "ok", "run "+picks, "no", "left ax1", "ok", "run "+picks, "no", "run", "100 1 done")
	}
}

// Runs of just 100 steps, and of one more.
func TestRunsOfTheDeskOfManySteps(t *testing.T) {
	t.Parallel()
	wantTold(t, "left "+countingProgram(99), "ok", "run", "222 99 done", "left "+countingProgram(100), "ok", "run", "222 100 done", "left "+countingProgram(101), "ok", "run", "222 100 busy", "run 0", "222 100 busy", "left "+countingProgram(300), "ok", "finals", "222", "cost", "20 20", "to 222", "ok", "picks", "-")
	wantTold(t, "left ;"+countingProgram(100)+"/ss", "ok", "run", "222 100 asks", "run 0", "222 100 busy", "left ;"+countingProgram(99)+"/ss", "ok", "run", "222 99 asks", "run 0", "222 100 done", "left ;"+countingProgram(101)+"/ss", "ok", "run", "222 100 busy")
	wantTold(t, "left ;"+countingProgram(100)+"~f", "ok", "run", "222 100 blocked", "left ;"+countingProgram(100)+"~t", "ok", "run", "222 100 busy", "left ;"+countingProgram(101)+"~f", "ok", "run", "222 100 busy")
	wantTold(t, "left @=x0/ax0ax1", "ok", "run "+strings.Repeat("0", 48)+"1", "100 99 done", "run "+strings.Repeat("0", 49)+"1", "100 100 busy", "run "+strings.Repeat("0", 49), "000 99 asks", "run "+strings.Repeat("0", 5000), "000 100 busy")
}

func TestFinalsOfTheDesk(t *testing.T) {
	t.Parallel()
	cases := map[string]string{
		"ax1": "100", "/ax1ax2": "100 200", "/ax2ax1": "100 200", "/ax2/ay1az1": "200 010 001", "@ts": "- loops", "~f": "- blocks", "/@ts~f": "- loops blocks", "/~f@ts": "- loops blocks",
		"/s@ts": "000 loops", "/@ts/sax1": "000 100 loops", "/s~f": "000 blocks", "/~f/ax2az1": "200 001 blocks", "/s/@ts~f": "000 loops blocks", "/~f/ax2/@tsax1": "100 200 loops blocks", "@=x0/s~f": "- loops blocks", "@=x0/s/~fax1": "100 loops blocks",
	}
	for p, want := range cases {
		wantTold(t, "left "+p, "ok", "finals", want)
	}
	wantTold(t, "left @=x1s", "ok", "finals", "000", "from 100", "ok", "finals", "- loops", "left ~=x1", "ok", "finals", "100", "from 012", "ok", "finals", "- blocks", "right ax2", "ok", "finals", "- blocks", "to 200", "ok", "finals", "- blocks")
	wantTold(t, "left "+strings.Repeat(";/sax+x1;/say+y1;/saz+z1", 2)+"s", "ok", "finals", modelStates(everyState))
}

func TestPicksOfTheDesk(t *testing.T) {
	t.Parallel()
	wantTold(t, "picks", "-", "left /ax1ax2", "ok", "picks", "no", "to 100", "ok", "picks", "0", "to 200", "ok", "picks", "1", "from 210", "ok", "picks", "no", "to 210", "ok", "picks", "1", "to 110", "ok", "picks", "0")
	wantTold(t, "left //sax1ax2", "ok", "picks", "00", "to 100", "ok", "picks", "01", "to 200", "ok", "picks", "1", "left ax2", "ok", "picks", "-", "left ~f", "ok", "picks", "no", "left @ts", "ok", "picks", "no")
	wantTold(t, "left @<x2/ax+x1ax0", "ok", "from 010", "ok", "to 210", "ok", "picks", "00", "from 110", "ok", "picks", "0", "from 210", "ok", "picks", "-", "to 010", "ok", "picks", "no")
	// Six picks, and seven.
	wantTold(t, "to 200", "ok", "left "+strings.Repeat("/ax1", 6)+"ax2", "ok", "picks", "111111", "left "+strings.Repeat("/ax1", 7)+"ax2", "ok", "picks", "no", "finals", "100 200", "run 1111111", "200 1 done", "to 100", "ok", "picks", "0")
	wantTold(t, "to 222", "ok", "left "+countingProgram(300), "ok", "picks", "-", "left "+countingProgram(301), "ok", "picks", "no", "finals", "222")
}

// statesIn returns the states in which a test is true, as the desk writes them.
func statesIn(test string) string { return modelStates(modelPredOf(test)) }

func TestSetsOfTheDesk(t *testing.T) {
	t.Parallel()
	wantTold(t, "left ax+x1", "ok", "ends &=x1&=y0=z0", "200", "ends =x1", statesIn("=x2"), "ends f", "-", "ends t", statesIn("t"), "free &=x2&=y0=z0", "100", "free f", "-", "free t", statesIn("t"), "total =x0", statesIn("=x2"), "total f", "-", "right ~f", "ok", "free =x2", statesIn("=x1"))
	wantTold(t, "left ~=x1", "ok", "ends t", statesIn("=x1"), "ends =x2", "-", "free f", statesIn("!=x1"), "total f", "-", "total t", statesIn("=x1"), "free =y0", statesIn("|!=x1=y0"), "total =y0", statesIn("&=x1=y0"))
	wantTold(t, "left @=x0s", "ok", "ends t", statesIn("!=x0"), "free f", statesIn("=x0"), "total f", "-", "total t", statesIn("!=x0"), "free =y1", statesIn("|=x0=y1"), "total =y1", statesIn("&!=x0=y1"))
	wantTold(t, "left /ax1~f", "ok", "ends =x0", statesIn("=x1"), "free f", "-", "free =x1", statesIn("t"), "total =x1", "-", "left /ax1ax2", "ok", "ends &=y0=z0", "100 200", "free =x1", "-", "free <0x", statesIn("t"))
	wantTold(t, "left ax+x1", "ok", "triple =x0 =x1", "true", "triple =x1 =x1", "false", "counter =x0 =x1", "none", "counter =x1 =x1", "100 200", "counter t f", "000 100", "counter f f", "none", "triple f f", "true", "triple t f", "false", "triple t t", "true")
	wantTold(t, "left @ts", "ok", "triple t f", "true", "counter t f", "none", "left ~f", "ok", "triple t f", "true", "counter t f", "none", "left /ax1ax2", "ok", "counter t =x1", "000 200", "counter t f", "000 100", "counter &=y1=z2 =x2", "012 112", "triple =y1 &!=x0=y1", "true", "from 111", "ok", "counter t =x2", "000 100")
	for _, line := range []string{"ends", "free", "total", "strongest", "weakest"} {
		for _, test := range []string{"", " ", "=xX", "=X1", "<yZ", "=x3", "=x", "x", "T", "tt", "t ", " t", "t t", "t f", "\t", "t\r", "ẋ", "=x\xff", strings.Repeat("!", 200) + "t", noStates} {
			wantTold(t, "left @<x2ax+x1", "ok", line+" "+test, "no")
		}
		wantTold(t, "left @<x2ax+x1", "ok", line+" "+strings.Repeat("!", 199)+"t", "-")
	}
}

func TestLoopsOfTheDesk(t *testing.T) {
	t.Parallel()
	wantTold(t, "left @<x2ax+x1", "ok", "strongest &=x0&=y1=z0", "010 110 210", "strongest f", "-", "strongest t", statesIn("t"), "strongest =x2", statesIn("=x2"), "weakest =x2", statesIn("t"), "weakest =x1", "-", "weakest f", "-", "weakest &=x2=y0", statesIn("=y0"), "weakest &=x2&=y1=z2", "012 112 212", "turns", turnsOfX("2 1 0"), "right @ts", "ok", "turns", turnsOfX("2 1 0"))
	wantTold(t, "left @ts", "ok", "strongest =x0", statesIn("=x0"), "strongest f", "-", "weakest f", statesIn("t"), "weakest =x0", statesIn("t"), "turns", turnsOfX("-1 -1 -1"))
	wantTold(t, "left @tax+x1", "ok", "strongest &=x0&=y1=z0", "010 110 210", "weakest f", statesIn("t"), "turns", turnsOfX("-1 -1 -1"))
	wantTold(t, "left @fs", "ok", "strongest =x1", statesIn("=x1"), "weakest =x1", statesIn("=x1"), "weakest f", "-", "turns", turnsOfX("0 0 0"))
	wantTold(t, "left @=x0~f", "ok", "strongest =x0", statesIn("=x0"), "weakest f", statesIn("=x0"), "turns", turnsOfX("1 0 0"), "left @=x0@ts", "ok", "strongest =x0", statesIn("=x0"), "weakest f", statesIn("=x0"), "turns", turnsOfX("-1 0 0"))
	wantTold(t, "left @<x2/ax+x1ax0", "ok", "turns", turnsOfX("-1 -1 0"), "strongest &=x1&=y0=z0", "000 100 200", "weakest &=x2=y0", statesIn("=y0"))
	for _, p := range []string{"s", "ax1", "~t", ";@tss", ";s@ts", "?t@ts@ts", "/@ts@ts", "?t;s@tss"} {
		wantTold(t, "left "+p, "ok", "right @<x2ax+x1", "ok", "strongest t", "no", "strongest f", "no", "weakest t", "no", "weakest =x0", "no", "turns", "no", "exchange", "@<x2ax+x1", "turns", turnsOfX("2 1 0"), "weakest =x2", statesIn("t"))
	}
}

// turnsOfX returns the numbers for all states from those for the values of x.
func turnsOfX(three string) string { return strings.TrimSuffix(strings.Repeat(three+" ", 9), " ") }

func TestChangesOfTheDesk(t *testing.T) {
	t.Parallel()
	cases := []struct{ p, q, same, refines, commute, differ, affected string }{
		{"s", "s", "true", "true", "true", "none", "-"}, {"ax1", "ax2", "false", "false", "false", "000 finals", "x"}, {"ax1", "ay2", "false", "false", "true", "000 finals", "xy"}, {"ax+x1", "ax+x2", "false", "false", "true", "000 finals", "x"}, {"@<x2ax+x1", "ax2", "true", "true", "true", "none", "-"},
		{"ax1", "?=y2ax2ax1", "false", "false", "false", "020 finals", "x"}, {"s", "/s@ts", "false", "true", "true", "000 loops", "-"}, {"/s@ts", "s", "false", "false", "true", "000 loops", "-"}, {"s", "?=z1/s@tss", "false", "true", "true", "001 loops", "-"}, {"s", "/s~f", "false", "true", "true", "000 blocks", "-"}, {"?=y1/s~fs", "s", "false", "false", "true", "010 blocks", "-"},
		{"s", "~f", "false", "false", "true", "000 finals", "-"}, {"~f", "s", "false", "false", "true", "000 finals", "-"}, {"~f", "@ts", "false", "false", "false", "000 loops", "-"}, {"/~f@ts", "@ts", "false", "false", "false", "000 blocks", "-"}, {"@ts", "/~f@ts", "false", "true", "false", "000 blocks", "-"}, {"~=x0", "s", "false", "false", "true", "100 finals", "-"},
		{"ax1", "/ax1ax2", "false", "true", "false", "000 finals", "x"}, {"/ax1ax2", "ax1", "false", "false", "false", "000 finals", "x"},
		// What may end differently is affected, though both do the same.
		{"/ax0ax1", "/ax1ax0", "true", "true", "true", "none", "x"}, {"s", ";ay1az1", "false", "false", "true", "000 finals", "yz"}, {";ax1;ay1az1", ";az2;ay2ax2", "false", "false", "false", "000 finals", "xyz"}, {"?=x0az+z1s", "s", "false", "false", "true", "000 finals", "z"},
	}
	for _, c := range cases {
		wantTold(t, "left "+c.p, "ok", "right "+c.q, "ok", "same", c.same, "refines", c.refines, "commute", c.commute, "differ", c.differ, "affected", c.affected)
		// They ask neither for the tests nor for the states.
		wantTold(t, "right "+c.q, "ok", "pre f", "ok", "post f", "ok", "from 121", "ok", "to 212", "ok", "left "+c.p, "ok", "same", c.same, "refines", c.refines, "commute", c.commute, "differ", c.differ, "affected", c.affected)
	}
	depends := map[string][3]string{
		"s": {"x", "y", "z"}, "ax1": {"-", "y", "z"}, "~f": {"-", "-", "-"}, "@ts": {"-", "-", "-"}, "?=z0axyax0": {"yz", "y", "z"}, "ax+x+yz": {"xyz", "y", "z"}, "~=x1": {"x", "xy", "xz"}, "/ax0/ax1ax2": {"-", "y", "z"}, ";axyayx": {"y", "y", "z"}, "axz": {"z", "y", "z"},
	}
	for p, want := range depends {
		wantTold(t, "left "+p, "ok", "right ax+y+zx", "ok", "depends x", want[0], "depends y", want[1], "depends z", want[2])
	}
	for _, v := range append(brokenLetters(), "x y", "x z", "  ", "x\r", "\tx") {
		if !strings.Contains(v, "\n") {
			wantTold(t, "left ax+xy", "ok", "depends "+v, "no")
		}
	}
}

func TestPairsOfTheDesk(t *testing.T) {
	t.Parallel()
	wantTold(t, "pre =xX", "ok", "post =xX", "ok", "left ax+x1", "ok", "right ax+x1", "ok", "holds", "true", "matches", "true", "together", "true", "against", "none", "proves", "true", "right ax+x2", "ok", "holds", "false", "matches", "false", "together", "true", "against", "000 000 100 200", "proves", "false", "post =+x1X", "ok", "holds", "true", "against", "none", "proves", "true")
	// The default tests are those of equal states, whatever the states from and to are.
	wantTold(t, "from 012", "ok", "to 121", "ok", "holds", "true", "left ax1", "ok", "holds", "false", "against", "000 000 100 000", "right ax1", "ok", "holds", "true", "left @<x1ax+x1", "ok", "holds", "false", "against", "200 200 200 100", "post !<xX", "ok", "holds", "true")
	// Tests of one state, or of none, are asked for relations, too.
	wantTold(t, "right /ax0ax1", "ok", "post =xX", "ok", "pre t", "ok", "matches", "false", "pre <x2", "ok", "matches", "true", "holds", "false", "against", "000 000 000 100", "proves", "false", "pre =X2", "ok", "matches", "false", "pre =x1", "ok", "matches", "true", "against", "100 000 100 000", "pre f", "ok", "holds", "true", "matches", "true", "against", "none", "proves", "true", "together", "true")
	wantTold(t, "left ax1", "ok", "right ax2", "ok", "post =x1", "ok", "holds", "true", "proves", "true", "post =X2", "ok", "holds", "true", "post =X1", "ok", "holds", "false", "proves", "false", "against", "000 000 100 200", "post =x2", "ok", "holds", "false", "pre =X1", "ok", "against", "000 100 100 200", "pre &=x2=Z1", "ok", "against", "200 001 100 201", "post f", "ok", "holds", "false", "post t", "ok", "holds", "true")
	wantTold(t, "left @=x0s", "ok", "together", "false", "pre !=x0", "ok", "together", "true", "pre =X0", "ok", "together", "false", "right @=x0s", "ok", "together", "false", "pre =xX", "ok", "together", "true", "pre t", "ok", "together", "false", "right @ts", "ok", "together", "false", "pre =x0", "ok", "together", "true", "post f", "ok", "together", "true", "holds", "true", "against", "none", "matches", "true")
	wantTold(t, "left @ts", "ok", "right ~f", "ok", "post f", "ok", "pre t", "ok", "holds", "true", "matches", "true", "together", "true", "proves", "true", "against", "none", "left s", "ok", "holds", "true", "matches", "false", "together", "false")
	// Of no state, but of the pair in which the first test is true first.
	wantTold(t, "left /axyaxz", "ok", "right /ayxayz", "ok", "pre &=y1&=z2&=X1&=Z0=x0", "ok", "post !=xY", "ok", "against", "012 100 112 110", "post |=x2=Y0", "ok", "against", "012 100 112 110", "post !<Yx", "ok", "against", "012 100 112 100", "post t", "ok", "against", "none")
}

func TestProductsOfTheDesk(t *testing.T) {
	t.Parallel()
	wantTold(t, "left @<x2ax+x1", "ok", "right @<x2ax+x1", "ok", "product", "@|<x2<X2?<x2?<X2;ax+x1aX+X1ax+x1aX+X1", "align b", "@|<x2<X2?<x2?<X2;ax+x1aX+X1ax+x1aX+X1", "align lr", ";@<x2ax+x1@<X2aX+X1", "align rl", ";@<X2aX+X1@<x2ax+x1", "right ax2", "ok", "product", ";@<x2ax+x1aX2", "exchange", "ax2", "product", ";ax2@<X2aX+X1")
	wantTold(t, "left ;ax1ay1", "ok", "right ;ax2s", "ok", "product", ";;ax1aX2;ay1s", "align blr", ";;ax1aX2;ay1s", "align bb", ";;ax1aX2;ay1s", "align lrlr", ";ax1;aX2;ay1s", "align llrr", ";ax1;ay1;aX2s", "align rrll", ";aX2;s;ax1ay1", "align lbr", ";ax1;;ay1aX2s", "align rbl", ";aX2;;ax1say1")
	for _, plan := range []string{"", " ", "l", "r", "b", "bl", "br", "lr", "llr", "bbb", "bbl", "llrrl", "lllrr", "LLRR", "bB", "b b", "bb ", " bb", "bb\r", "b\tb", "x", "bx", "01", "bé", "llrr\xff", "-"} {
		wantTold(t, "left ;ax1ay1", "ok", "right ;ax2s", "ok", "align "+plan, "no", "align bb", ";;ax1aX2;ay1s")
	}
	wantTold(t, "left ?<x2sax1", "ok", "right ?<x2ax2s", "ok", "product", "?<x2?<X2;saX2;ss?<X2;ax1aX2;ax1s", "left ;ax1?=y0ss", "ok", "product", ";;ax1?=y0ss?<X2aX2s")
}

// Products of just 1000 bytes, and of more.
func TestProductsOfTheDeskThatAreTooLong(t *testing.T) {
	t.Parallel()
	long := strings.Repeat("?ts", 60) + "s"
	wantTold(t, "left "+long, "ok", "right "+long, "ok", "product", "no", "proves", "no", "align b", "no", "holds", "true", "against", "none", "same", "true", "align lr", ";"+long+long, "pre f", "ok", "proves", "no", "post f", "ok", "proves", "no", "right s", "ok", "proves", "true", "product", ";"+long+"s")
	seen := map[bool]int{}
	for k := 10; k < 24; k++ {
		for _, more := range []string{"s", "ax1", "~t", "~!t", "~!!t"} {
			p := strings.Repeat("?ts", k) + more
			want, ok := fits(modelLockstep(p, p), true)
			proves := "true"
			if !ok {
				want, proves = "no", "no"
			}
			seen[ok]++
			wantTold(t, "left "+p, "ok", "right "+p, "ok", "product", want, "align b", want, "proves", proves)
		}
	}
	if seen[true] < 10 || seen[false] < 10 {
		t.Errorf("%d products are there, and %d are too long", seen[true], seen[false])
	}
}

func TestDerivationsOfTheDesk(t *testing.T) {
	t.Parallel()
	wantTold(t, "derive", "set", "left ;ax1s", "ok", "derive", "run", "right ;ax2s", "ok", "derive", "set set seq,1,0", "right ax1", "ok", "derive", "run", "left ax+xy", "ok", "derive", "set", "left @ts", "ok", "right @ts", "ok", "derive", "run", "left /ss", "ok", "right /ss", "ok", "derive", "run", "left ~t", "ok", "right ~t", "ok", "derive", "run")
	wantTold(t, "left ;s;ss", "ok", "right ;s;ss", "ok", "derive", "set set seq,1,0 set seq,3,2", "right ;;sss", "ok", "derive", "run run seq,1,0", "left ?=x1ax2s", "ok", "derive", "run", "right ?=x1ax2s", "ok", "derive", "set weak,0 set weak,2 set weak,4 set weak,6 if,1,3,5,7", "pre f", "ok", "post f", "ok", "derive", "set weak,0 set weak,2 set weak,4 set weak,6 if,1,3,5,7", "from 012", "ok", "to 012", "ok", "derive", "set weak,0 set weak,2 set weak,4 set weak,6 if,1,3,5,7")
	wantTold(t, "left ;~t?=x1@tss", "ok", "right ;s?=y2ss", "ok", "derive", "run weak,0 run weak,2 set weak,4 set weak,6 if,1,3,5,7 run seq,9,8")
	// Just 59 lines, and 61: there is always an odd number.
	built := "set"
	for n := 1; n < 30; n++ {
		built += " set seq," + strconv.Itoa(2*n-1) + "," + strconv.Itoa(2*n-2)
	}
	thirty := strings.Repeat(";s", 29) + "s"
	wantTold(t, "left "+thirty, "ok", "right "+thirty, "ok", "derive", built, "left ;s"+thirty, "ok", "derive", strings.Replace(built, "set", "run", 1), "right ;s"+thirty, "ok", "derive", "no", "holds", "true", "right "+thirty, "ok", "exchange", thirty, "right "+thirty, "ok", "derive", built)
	if got := strings.Count(built, " ") + 1; got != 59 {
		t.Errorf("there are %d lines", got)
	}
}

func TestTransformationsOfTheDesk(t *testing.T) {
	t.Parallel()
	cases := []struct{ line, p, want string }{
		{"tidy", ";;sax+12;?t;sssay*1y", ";ax0ay*1y"}, {"tidy", "?=11;sax+12s", "ax0"}, {"tidy", ";ax1ay1", ";ax1ay1"}, {"fold", "?=11ax+12s", "ax0"}, {"fold", ";~tax+x1", ";sax+x1"}, {"fold", "@<x2ax+x1", "@<x2ax+x1"},
		{"unroll", "@<x2ax+x1", "?<x2;ax+x1@<x2ax+x1s"}, {"swap", "?=x1sax1", "?!=x1ax1s"}, {"push", ";?=x1ay1saz1", "?=x1;ay1az1;saz1"}, {"sets", ";ax+x1ax*xx", "ax*+x1+x1"},
		{"rewrite skips", ";;sss", "s"}, {"rewrite skips", "/axx;ss", "s"}, {"rewrite skips", "ax+12", "ax+12"}, {"rewrite flat", ";;ax1ay1az1", ";ax1;ay1az1"}, {"rewrite flat", "@t;;sss", "@t;s;ss"}, {"rewrite unroll", "@t@ts", "?t;?t;s@tss@t?t;s@tsss"}, {"rewrite swap", "?=x1?=y1sax1s", "?!=x1s?!=y1ax1s"}, {"rewrite push", "@t;?=x1ay1saz1", "@t?=x1;ay1az1;saz1"}, {"rewrite sets", "/;ax+x1ax*xxs", "/ax*+x1+x1s"},
		// What they have nothing to do with stays, and so is the program.
		{"rewrite unroll", "ax1", "ax1"}, {"rewrite swap", "/ss", "/ss"}, {"rewrite push", ";s?=x1ay1s", ";s?=x1ay1s"}, {"rewrite sets", ";ax1ay1", ";ax1ay1"}, {"rewrite flat", ";s;ss", ";s;ss"}, {"rewrite skips", "?=x1sax1", "?=x1sax1"},
	}
	for _, c := range cases {
		wantTold(t, "left "+c.p, "ok", "right "+c.p, "ok", c.line, c.want, "left", c.want, "right", c.p, "same", "true", "exchange", c.p, c.line, c.want, "right", c.want, "left", c.want, "differ", "none")
	}
	// One after the other.
	wantTold(t, "left @<x2ax+x1", "ok", "unroll", "?<x2;ax+x1@<x2ax+x1s", "unroll", "no", "swap", "?!<x2s;ax+x1@<x2ax+x1", "swap", "?!!<x2;ax+x1@<x2ax+x1s", "rewrite unroll", "?!!<x2;ax+x1?<x2;ax+x1@<x2ax+x1ss", "push", "no", "sets", "no", "tidy", "?!!<x2;ax+x1?<x2;ax+x1@<x2ax+x1ss", "right ax2", "ok", "same", "true")
	wantTold(t, "left ;?=11ax+12sax+x+12", "ok", "push", "?=11;ax+12ax+x+12;sax+x+12", "tidy", ";ax0ax+x0", "sets", "ax+00", "fold", "ax0", "tidy", "ax0", "show", "x:=0", "run", "000 1 done")
}

// Transformations that cannot be applied.
func TestTransformationsOfTheDeskThatFail(t *testing.T) {
	t.Parallel()
	cases := map[string][]string{
		"unroll": {"s", "ax1", "~t", "?t@tss", ";@tss", ";s@ts", "/@tss"}, "swap": {"s", "ax1", "~t", "@t?tss", ";?tsss", "/?tsss"}, "push": {"s", "ax1", "?tss", "@ts", ";ss", ";s?tss", ";@tss", ";;?tssss", "/?tsss"}, "sets": {"s", "ax1", ";ax1ay1", ";ax1s", ";sax1", ";;ax1ax2s", "/ax1ax2", "?tax1ax2", ";ax1;ax2ax1"},
	}
	for line, list := range cases {
		for _, p := range list {
			wantTold(t, "right "+p, "ok", "left "+p, "ok", line, "no", "left", p, "right", p)
		}
	}
	for _, name := range append(namesOfNoRewriting(), "tidy", "fold", "Skips", "skips ", " skips", "skips flat", "flat\r", "\tflat") {
		if !strings.Contains(name, "\n") && len(name) < 10000 {
			wantTold(t, "left @t;;sss", "ok", "rewrite "+name, "no", "left", "@t;;sss", "rewrite flat", "@t;s;ss")
		}
	}
	// They would become longer than 200 bytes, or than 1000 within.
	loop := "@" + strings.Repeat("!", 60) + "t" + strings.Repeat(";s", 19) + "s"
	swap := "?" + strings.Repeat("!", 195) + "t" + "s~t"
	wantTold(t, "left "+loop, "ok", "unroll", "no", "left", loop, "rewrite unroll", "no", "left", loop, "left "+swap, "ok", "swap", "no", "rewrite swap", "no", "left", swap, "right "+swap, "ok", "same", "true")
	wantTold(t, "left "+strings.Repeat("@t", 20)+"s", "ok", "rewrite unroll", "no", "unroll", "?t;"+strings.Repeat("@t", 19)+"s"+strings.Repeat("@t", 20)+"ss")
}

func TestCostsOfTheDesk(t *testing.T) {
	t.Parallel()
	cases := []struct{ p, cost, slowest string }{
		{"s", "0 0", "000 0"}, {"ax1", "1 1", "000 1"}, {"?=y1;ax1ax2s", "0 0", "010 2"}, {"@<x2ax+x1", "2 2", "000 2"}, {"/ax1s", "0 1", "000 1"}, {"?=x0s/s;ax1ax1", "0 0", "100 2"}, {"@<x2/ax+x1ax0", "2 any", "000 any"}, {"@=x0/ax0ax1", "1 any", "000 any"}, {"?=z2@=x0/ax0ax1ax1", "1 1", "002 any"},
		{"~f", "none none", "000 none"}, {"@ts", "none none", "000 none"}, {"~=x2", "none none", "200 0"}, {"?=x0@tss", "none none", "100 0"}, {"@<x2;ax+x1;ay0@<y2ay+y1", "8 8", "000 8"}, {countingLoop(";axx", 38), "1024 1024", "000 1024"}, {"/s@tax1", "0 0", "000 0"},
	}
	for _, c := range cases {
		wantTold(t, "left "+c.p, "ok", "cost", c.cost, "slowest", c.slowest, "right ax2", "ok", "pre f", "ok", "post f", "ok", "to 222", "ok", "cost", c.cost, "slowest", c.slowest)
	}
	wantTold(t, "left @<x2/ax+x1ax0", "ok", "from 110", "ok", "cost", "1 any", "from 212", "ok", "cost", "0 0", "slowest", "000 any", "left ~=x2", "ok", "cost", "0 0", "from 112", "ok", "cost", "none none", "slowest", "200 0")
	wantTold(t, "left ?=x0ax1s", "ok", "right ?=y0;ax1ax1s", "ok", "constant ", "false", "constant x", "true", "constant y", "false", "constant z", "false", "constant yz", "false", "constant xz", "true", "constant xyz", "true", "left @=x0/ax0ax1", "ok", "constant xyz", "false", "left @ts", "ok", "constant ", "true", "left /ax1s", "ok", "constant xyz", "false")
	for _, vars := range append(brokenAgreements(), "w", " ", "x ", " x", "x y", "xy ", "xyz xyz", "x\r", "-") {
		if !strings.Contains(vars, "\n") && len(vars) < 10000 {
			wantTold(t, "left ax1", "ok", "constant "+vars, "no", "constant xyz", "true")
		}
	}
}

func TestCostsOfTwoProgramsOfTheDesk(t *testing.T) {
	t.Parallel()
	cases := []struct{ p, q, pre, gap, dearer string }{
		{"s", "s", equalAtFirst, "0", "false"}, {"ax1", "s", equalAtFirst, "1", "true"}, {"s", "ax1", equalAtFirst, "-1", "false"}, {"s", ";ax1;ax2ax1", equalAtFirst, "-3", "false"}, {"@<x2ax+x1", "ax2", equalAtFirst, "1", "true"}, {"ax2", "@<x2ax+x1", equalAtFirst, "1", "true"}, {"ax2", "@<x2ax+x1", "=X0", "-1", "true"}, {"ax2", "@<x2ax+x1", "&=x0=X1", "0", "true"}, {"@<x2ax+x1", "@<x2ax+x1", "t", "2", "false"}, {"@<x2ax+x1", "@<x2ax+x1", "<Xx", "-1", "false"}, {"@<x2ax+x1", "@<x2ax+x1", "=X+x1", "1", "false"}, {"@<x2ax+x1", "@<x2ax+x1", "&=x2=X0", "-2", "false"},
		{"~f", "s", equalAtFirst, "none", "false"}, {"s", "~f", equalAtFirst, "none", "true"}, {"@ts", "@ts", "t", "none", "false"}, {"ax1", "ax1", "f", "none", "false"}, {"?=x0~fs", "?=x0s~f", equalAtFirst, "none", "true"}, {"?=x0~fax1", "?=x0s~f", "t", "1", "true"},
		{"@=x0/ax0ax1", "s", equalAtFirst, "any", "true"}, {"@=x0/ax0ax1", "s", "=x1", "0", "true"}, {"s", "@=x0/ax0ax1", equalAtFirst, "0", "false"}, {"s", "@=x0/ax0ax1", "=X0", "-1", "false"}, {"@=x0/ax0ax1", "@=x0/ax0ax1", "t", "any", "false"}, {"@=x0/ax0ax1", "~f", "t", "none", "true"}, {"/ax1s", "/ax1s", equalAtFirst, "1", "false"}, {"/ax1s", "ax1", equalAtFirst, "0", "false"}, {"ax1", "/ax1s", equalAtFirst, "1", "false"}, {"?=z1ax1s", "?=z2ax1s", equalAtFirst, "1", "true"},
	}
	for _, c := range cases {
		wantTold(t, "left "+c.p, "ok", "right "+c.q, "ok", "pre "+c.pre, "ok", "gap", c.gap, "dearer", c.dearer, "post f", "ok", "from 012", "ok", "to 112", "ok", "gap", c.gap, "dearer", c.dearer)
	}
}

func TestExchangeOfTheDesk(t *testing.T) {
	t.Parallel()
	wantTold(t, "left ax1", "ok", "right ay2", "ok", "exchange", "ay2", "left", "ay2", "right", "ax1", "show", "y:=2", "finals", "020", "exchange", "ax1", "left", "ax1", "right", "ay2", "finals", "100")
	// The tests and the states stay where they are.
	wantTold(t, "pre =x1", "ok", "post =Y1", "ok", "from 012", "ok", "to 112", "ok", "left ax1", "ok", "exchange", "s", "pre", "=x1", "post", "=Y1", "run", "012 1 done", "picks", "no", "exchange", "ax1", "picks", "-", "pre", "=x1", "post", "=Y1")
	wantTold(t, "exchange", "s", "left ax1", "ok", "right", "s", "exchange", "s", "exchange", "ax1", "exchange", "s", "right", "ax1")
}

func TestShowOfTheDesk(t *testing.T) {
	t.Parallel()
	wantTold(t, "left @<x2ax+x1", "ok", "show", "while x<2 {x:=(x+1)}", "left ?=x1s/~tax1", "ok", "show", "if x=1 {skip} else {either {assume true} or {x:=1}}", "right ax2", "ok", "show", "if x=1 {skip} else {either {assume true} or {x:=1}}", "left ax1@<y2ay+yx", "no", "left ;ax1@<y2ay+yx", "ok", "show", "x:=1; while y<2 {y:=(y+x)}")
}

func TestLongScripts(t *testing.T) {
	t.Parallel()
	cases := []struct {
		text func(length int) string
		want string
	}{
		{func(n int) string { return strings.Repeat("\n", n) }, ""},
		{func(n int) string { return "same" + strings.Repeat("\n", n-4) }, "true\n"},
		{func(n int) string {
			return "same\nleft ax1\nsame\n" + strings.Repeat("\n", n-len("same\nleft ax1\nsame\n"))
		}, "true\nok\nfalse\n"},
		{func(n int) string { return strings.Repeat("x", n) }, "what\n"},
		{func(n int) string { return "left " + strings.Repeat("x", n-5) }, "no\n"},
		{func(n int) string { return strings.Repeat(" ", n) }, "what\n"},
		{func(n int) string { return "run " + strings.Repeat("0", n-4) }, "000 1 done\n"},
		{func(n int) string { return "same\n" + strings.Repeat("x", n-11) + "\nright" }, "true\nwhat\ns\n"},
		{func(n int) string { return "same\n" + strings.Repeat("\n", n-10) + "right" }, "true\nfull\n"},
		// Bytes are counted, not characters.
		{func(n int) string { return strings.Repeat("é", n/2) + strings.Repeat("x", n%2) }, "what\n"},
		{func(n int) string { return strings.Repeat("\x00", n) }, "what\n"}, {func(n int) string { return strings.Repeat("\xff", n) }, "what\n"},
	}
	for _, c := range cases {
		for _, length := range []int{100, 19998, 19999, 20000} {
			if text := c.text(length); len(text) != length {
				t.Fatalf("%.40q has %d bytes", text, len(text))
			}
			if length == 100 && c.want == "true\nfull\n" {
				continue
			}
			wantScript(t, c.text(length), c.want)
		}
		for _, length := range []int{20001, 20002, 40000, 1 << 20} {
			wantScript(t, c.text(length), "long\n")
		}
	}
}

func TestScriptsWithEmptyLines(t *testing.T) {
	t.Parallel()
	cases := map[string]string{
		"": "", "\n": "", "\n\n\n": "", "same": "true\n", "same\n": "true\n", "\nsame": "true\n", "\n\nsame\n\n\n": "true\n", "same\nright": "true\ns\n", "same\nright\n": "true\ns\n", "same\n\n\nright": "true\ns\n", "\n\nleft ax1\n\n\nleft\n": "ok\nax1\n",
		" ": "what\n", " \n \n": "what\nwhat\n", "\r\n": "what\n", "\r": "what\n", "\t\n\n": "what\n", "\n\r\n\n": "what\n", "same\r\nright\n": "what\ns\n", "same\rright": "what\n", "same\fright": "what\n", "same\u2028right": "what\n", "same\u0085right": "what\n", "same\x00": "what\n",
		"left \n\nleft": "no\ns\n", "left\nax1": "s\nwhat\n", "left \nax1\nleft": "no\nwhat\ns\n",
	}
	for text, want := range cases {
		wantScript(t, text, want)
	}
}

// Lines behind 99 other lines, and behind 100 of them.
func TestManyLines(t *testing.T) {
	t.Parallel()
	kinds := map[string]string{"same": "true\n", "x": "what\n", "": "", "left ax3": "no\n", "left ax1": "ok\n", " ": "what\n", "full": "what\n"}
	for kind, out := range kinds {
		for before, want := range map[int]string{0: "s\n", 1: "s\n", 98: "s\n", 99: "s\n", 100: "full\n", 101: "full\n", 102: "full\n", 250: "full\n"} {
			lines := strings.Repeat(kind+"\n", before)
			for _, end := range []string{"", "\n", "\n\n\n"} {
				wantScript(t, lines+"right"+end, strings.Repeat(out, min(before, 100))+want)
			}
			// Nothing more is written behind it.
			if before >= 100 {
				wantScript(t, lines+"right\nleft\n\nsame\n", strings.Repeat(out, 100)+"full\n")
			}
		}
		wantScript(t, strings.Repeat(kind+"\n", 100), strings.Repeat(out, 100))
	}
	// Empty lines are no lines that would be executed, but some of those before.
	hundred := strings.Repeat("same\n", 100)
	trues := strings.Repeat("true\n", 100)
	wantScript(t, hundred+"\n\n\n\n", trues)
	wantScript(t, hundred+"\n\n\nsame", trues+"full\n")
	wantScript(t, strings.Repeat("\n", 19999)+"s", "full\n")
	wantScript(t, strings.Repeat("same\n\n", 49)+"\nright\nleft", strings.Repeat("true\n", 49)+"s\nfull\n")
	wantScript(t, strings.Repeat("\n", 98)+"right\nleft\nsame", "s\ns\nfull\n")
	wantScript(t, strings.Repeat("\n", 99)+"\r\nright", "what\nfull\n")
	wantScript(t, strings.Repeat("\n", 100)+"\r", "full\n")
	wantScript(t, strings.Repeat("\n", 100)+" ", "full\n")
	wantScript(t, strings.Repeat("\n", 100)+"foo\nbar", "full\n")
	wantScript(t, strings.Repeat("\n", 101), "")
}

// scriptThatWrites returns a script of fewer than 98 lines that writes just as many
// bytes.
func scriptThatWrites(t *testing.T, bytes int) string {
	t.Helper()
	p := strings.Repeat("/s", 60) + "s"
	shown := len(impl.ShowProgram(p)) + 1
	script, left := "left "+p+"\n", bytes-len("ok\n")
	for ; left > shown+600; left -= shown {
		script += "show\n"
	}
	// What is left is written by lines that return programs of a known length, and
	// that take theirs.
	for left > 0 {
		take := left
		if left > 200 {
			take = 100
		}
		script += "right " + programOf(take-len("ok\n\n")) + "\nright\n"
		left -= take
	}
	if got := impl.RunScript(script); len(got) != bytes || strings.Count(script, "\n") > 97 || len(script) > 19000 {
		t.Fatalf("the script of %d lines and %d bytes writes %d bytes, and not %d", strings.Count(script, "\n"), len(script), len(got), bytes)
	}
	return script
}

func TestMuchOutput(t *testing.T) {
	t.Parallel()
	for _, bytes := range []int{39000, 39995, 39997, 39998, 39999, 40000, 40001, 40002, 40100} {
		script := scriptThatWrites(t, bytes)
		out := impl.RunScript(script)
		wantScript(t, script+"\n\n", out)
		if bytes > 40000 {
			wantScript(t, script+"turns", out+"full\n")
			wantScript(t, script+"\nturns\nturns\n", out+"full\n")
			wantScript(t, script+"foo\nbar", out+"full\n")
			wantScript(t, script+"left ax3\n", out+"full\n")
			continue
		}
		wantScript(t, script+"turns", out+"no\n")
		wantScript(t, script+"\nturns", out+"no\n")
		wantScript(t, script+"foo", out+"what\n")
		// This may have been too much for the next one.
		next := "what\n"
		if bytes+len("no\n") > 40000 {
			next = "full\n"
		}
		wantScript(t, script+"turns\n\nfoo", out+"no\n"+next)
	}
	// A line may write much more.
	long := scriptThatWrites(t, 40000)
	shown := impl.ShowProgram(strings.Repeat("/s", 60) + "s")
	wantScript(t, long+"show\nleft", impl.RunScript(long)+shown+"\nfull\n")
}

// What is no line of the table, in any way, tells nothing and changes nothing.
func wantNoLine(t *testing.T, line string) {
	t.Helper()
	wantTold(t, "left @<x2ax+x1", "ok", "right ax2", "ok", line, "what", "left", "@<x2ax+x1", "right", "ax2", "pre", equalAtFirst, "post", equalAtFirst, "run", "200 5 done")
}

func TestLinesThatAreNone(t *testing.T) {
	t.Parallel()
	for _, line := range []string{
		"what", "no", "ok", "full", "long", "help", "foo", "-", "#", "s", "@ts", "=xX", "000", "0", "ax1", "leftax1", "left:ax1", "left=ax1", "left,ax1", "left\tax1", "left\x00ax1", "left\u00a0ax1", "left\u3000ax1", "\"left\" ax1", "p", "q", "lefts s", "tripletf", "triple\tt\tf", "triplet f", "set", "tidied", "folds", "costs", "is same",
		"ſame", "ſhow", "KEEP", "lєft", "\xffleft", "left\xff", "\ufeffleft", "same;", "same.", "same\b", "TidyProgram", "PairHolds", "skips", "flat", "skip", "done", "loops", "none", "any", "gap 0", "total", "constant", "flatten", "drop", "match", "hold", "prove", "end", "start", "print", "exit", "quit", "reset",
		" ", "  ", "   ", " left", " left ax1", "  left ax1", "\tleft", " same", " same ", "\r", "\t", "\x00", "\xff", "é", " \t", "left\r", "same\r", "same\t", "show\x00",
	} {
		wantNoLine(t, line)
	}
	words := slices.Concat(wordsAlone(), wordsWithRest(), wordsWithTests())
	for _, word := range words {
		for _, other := range []string{strings.ToUpper(word), strings.ToUpper(word[:1]) + word[1:], word[:len(word)-1], word[1:], word + "s", word + word[:1], word + "\r", word + "\t", "\t" + word, word + "\x00", word + "\xff", word + ".", word + word} {
			if slices.Contains(words, other) {
				continue
			}
			for _, rest := range []string{"", " ", " s", " t", " t t", " 000", " x"} {
				wantNoLine(t, other+rest)
			}
		}
	}
}

// A line with a rest is not the line without it, even if the rest is empty.
func TestLinesWithAndWithoutRest(t *testing.T) {
	t.Parallel()
	for _, word := range wordsAlone() {
		if slices.Contains(wordsWithRest(), word) {
			continue
		}
		for _, rest := range []string{" ", "  ", " s", " t", " x", " 0", " 000", " t f", " " + word, " \t"} {
			wantNoLine(t, word+rest)
		}
	}
	for _, word := range slices.Concat(wordsWithRest(), wordsWithTests()) {
		if !slices.Contains(wordsAlone(), word) {
			wantNoLine(t, word)
		}
	}
	for _, word := range wordsWithRest() {
		switch word {
		case "run":
			wantTold(t, "run ", "000 1 done", "run", "000 1 done")
		case "constant":
			wantTold(t, "constant ", "true", "constant", "what")
		default:
			wantTold(t, "left @ts", "ok", word+" ", "no", "left", "@ts", "right", "s", "pre", equalAtFirst, "post", equalAtFirst, "run", "000 100 busy")
		}
	}
}

func TestRestsWithSpaces(t *testing.T) {
	t.Parallel()
	rests := map[string]string{"left": "ax1", "right": "ax1", "pre": "=xX", "post": "=xX", "from": "012", "to": "012", "run": "0", "ends": "=x1", "free": "=x1", "total": "=x1", "strongest": "=x1", "weakest": "=x1", "depends": "x", "align": "b", "rewrite": "flat", "constant": "xy"}
	for _, word := range wordsWithRest() {
		rest := rests[word]
		if got := lastTold(t, "left @ts", word+" "+rest); got == "no" || got == "what" {
			t.Errorf("%q with %q writes %q", word, rest, got)
		}
		for _, other := range []string{" " + rest, rest + " ", "  " + rest, rest + "  ", " " + rest + " ", rest + " " + rest, rest + "  " + rest, " ", "  ", rest[:1] + " " + rest[1:], "\t" + rest, rest + "\t", rest + "\r", rest + "\x00", rest + "\v", rest + "\u00a0", "\ufeff" + rest} {
			wantTold(t, "left @ts", "ok", word+" "+other, "no", "left", "@ts", "right", "s", "pre", equalAtFirst, "post", equalAtFirst, "run", "000 100 busy", "left s", "ok", "picks", "-")
		}
	}
}

func TestTwoFields(t *testing.T) {
	t.Parallel()
	for _, word := range wordsWithTests() {
		for rest, want := range map[string]string{
			"": "what", " ": "no", "  ": "what", "   ": "what", "t": "what", "t ": "no", " t": "no", "t  ": "what", "  t": "what", " t ": "what", "t  f": "what", " t f": "what", "t f ": "what", "t f f": "what", "t f  ": "what", "  t f": "what", "t t t t": "what", "tf": "what", "t,f": "what", "t\tf": "what", "t\u00a0f": "what", "f": "what",
			"x f": "no", "t x": "no", "x x": "no", "=xX f": "no", "t =xX": "no", "=x3 t": "no", "t =x": "no", "tt f": "no", "t ff": "no", "T f": "no", "t F": "no", "t\t f": "no", "t \tf": "no", "t f\r": "no", "t f\t": "no", "\tt f": "no", "t f\x00": "no", "é f": "no", "t é": "no", "= =": "no", "0 0": "no", noStates + " " + noStates: "no", strings.Repeat("!", 200) + "t t": "no", "t " + strings.Repeat("!", 200) + "t": "no",
			"x y z": "what", "é": "what", "x": "what",
		} {
			wantTold(t, "left ax1", "ok", word+" "+rest, want, "left", "ax1")
		}
	}
	wantTold(t, "triple t t", "true", "triple t f", "false", "triple f t", "true", "counter t f", "000 000", "counter f t", "none", "triple =x1 "+strings.Repeat("!", 199)+"t", "false", "triple "+strings.Repeat("!", 199)+"t f", "true", "counter =x1 "+strings.Repeat("!", 199)+"t", "100 100", "triple  t", "no", "tripletf", "what")
}

func TestRestsThatAreNone(t *testing.T) {
	t.Parallel()
	ofOneLine := func(text string) bool { return len(text) < 10000 && !strings.Contains(text, "\n") }
	for _, p := range append(textsThatAreNoPrograms(), onlyWidePrograms()...) {
		if ofOneLine(p) {
			wantTold(t, "left ax1", "ok", "right ax2", "ok", "left "+p, "no", "right "+p, "no", "left", "ax1", "right", "ax2")
		}
	}
	for _, w := range append(textsThatAreNoWideTests(), brokenEverywhere()...) {
		if ofOneLine(w) && !impl.WideValid(w) {
			wantTold(t, "pre =xX", "ok", "post =yY", "ok", "pre "+w, "no", "post "+w, "no", "pre", "=xX", "post", "=yY")
		}
	}
	for _, s := range []string{"", "0", "00", "0000", "003", "030", "300", "0 0", "000 ", " 000", "0,0,0", "-00", "00-", "x00", "xyz", "ooo", "1", "27", "é0", "00\xff", "000\r", "111222", "９９９", "0x0", "{0 0 0}", "s", "t"} {
		wantTold(t, "left /ss", "ok", "from 121", "ok", "to 121", "ok", "from "+s, "no", "to "+s, "no", "run", "121 0 asks", "picks", "0")
	}
	for _, test := range append(brokenTests(), "=xX", "<Xy") {
		if ofOneLine(test) {
			for _, line := range []string{"ends ", "free ", "total ", "strongest ", "weakest "} {
				wantTold(t, "left @<x2ax+x1", "ok", line+test, "no")
			}
		}
	}
}

// All states can be written as those from and to.
func TestStatesOfTheDesk(t *testing.T) {
	t.Parallel()
	for _, s := range allStates() {
		at := impl.FormatState(s)
		wantTold(t, "from "+at, "ok", "run", at+" 1 done", "finals", at, "to "+at, "ok", "picks", "-", "left ax+x1", "ok", "picks", "no", "left ;ax+x1ax-x1", "ok", "picks", "-", "left ~f", "ok", "run", at+" 0 blocked")
	}
}

// A script is one of its own: what was told before is not known any more.
func TestScriptsStartAnew(t *testing.T) {
	t.Parallel()
	const script = "left @<x2ax+x1\nright ax2\npre =xX\npost f\nfrom 111\nto 222\nexchange\n"
	for range 3 {
		wantScript(t, script, "ok\nok\nok\nok\nok\nok\nax2\n")
		wantTold(t, "left", "s", "right", "s", "pre", equalAtFirst, "post", equalAtFirst, "run", "000 1 done", "picks", "-")
	}
}

// The given example.
func TestExampleOfTheDesk(t *testing.T) {
	t.Parallel()
	wantTold(t,
		"left @<x2ax+x1", "ok", "right ax2", "ok", "show", "while x<2 {x:=(x+1)}", "from 010", "ok", "run", "210 5 done", "finals", "210", "turns", "2 1 0 2 1 0 2 1 0 2 1 0 2 1 0 2 1 0 2 1 0 2 1 0 2 1 0",
		"weakest =x2", "000 100 200 010 110 210 020 120 220 001 101 201 011 111 211 021 121 221 002 102 202 012 112 212 022 122 222", "same", "true", "holds", "true", "product", ";@<x2ax+x1aX2", "proves", "true", "derive", "run", "gap", "1", "exchange", "ax2",
		"left ;ax+x1ax+x1", "ok", "sets", "ax++x11", "differ", "100 finals", "affected", "x", "pre =xX", "ok", "post =xX", "ok", "holds", "false", "against", "100 100 000 200", "depends x", "x", "cost", "1 1", "foo", "what")
}
