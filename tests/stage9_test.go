package tests

import (
	"math"
	"slices"
	"strings"
	"testing"

	"loop.example/productprograms/impl"
)

func TestConstantsOfStage9(t *testing.T) {
	if impl.MaxRules != 60 {
		t.Errorf("MaxRules = %d", impl.MaxRules)
	}
}

// namesOfNoRule returns texts that are none of the names of rules.
func namesOfNoRule() []string {
	return []string{
		"", " ", "Set", "SET", "sets", "se", "et", "set ", " set", "set\n", "set\x00", "\xffset", "runs", "RUN", "weaken", "w", "seq,split", "seqs", "sequence", "splits", "If", "if ", "iff", "else", "lefT", "ri", "while\n", "whiles", "@", "?", ";", "s", "a",
		"set run", "left right", "leftright", "skip", "choice", "loop", "for", "0", "1", "none", strings.Repeat("set", 1000), strings.Repeat("x", 1<<20),
	}
}

func TestLineValid(t *testing.T) {
	t.Parallel()
	l := impl.Line{Pre: equalPairs, P: "s", Q: "ax1", Post: noPairs}
	for rule, needs := range ruleNeeds() {
		l.Rule = rule
		for _, ref := range []int{0, 1, 2, 59, 60, 61, -1, -60, math.MaxInt, math.MinInt} {
			for count := range 7 {
				l.Refs = slices.Repeat([]int{ref}, count)
				wantTruth(t, "LineValid of "+rule, impl.LineValid(l), count == needs)
			}
		}
		l.Refs = make([]int, 100000)
		wantTruth(t, "LineValid of many Refs", impl.LineValid(l), false)
	}
	for _, name := range namesOfNoRule() {
		for count := range 5 {
			l.Rule, l.Refs = name, make([]int, count)
			wantTruth(t, "LineValid of the rule "+name, impl.LineValid(l), false)
		}
	}
	wantTruth(t, "LineValid of the zero value", impl.LineValid(impl.Line{}), false)
	// Which relations and programs these are does not matter, nor whether it is true.
	for n, both := range somePairsOfPrograms(40) {
		rels := someRels()
		l := impl.Line{Rule: "weak", Pre: rels[n%len(rels)], P: both[0], Q: both[1], Post: rels[n*3%len(rels)], Refs: []int{n}}
		wantTruth(t, "LineValid of "+both[0]+" and "+both[1], impl.LineValid(l), true)
	}
	for _, p := range fullPrograms() {
		wantTruth(t, "LineValid of long programs", impl.LineValid(impl.Line{Rule: "run", Pre: noPairs, P: p, Q: p, Post: noPairs}), true)
	}
}

// checkInvalidLine checks that a line does not follow, and that nothing follows
// from it.
func checkInvalidLine(t *testing.T, what string, l impl.Line) {
	t.Helper()
	if impl.LineValid(l) {
		t.Errorf("LineValid with %s is true", what)
	}
	other := lineOf("run f s s t")
	for _, before := range [][]impl.Line{nil, {l}, {other}, {other, other, other, other}} {
		if impl.LineFollows(before, l) {
			t.Errorf("LineFollows with %s is true", what)
		}
	}
	weak := impl.Line{Rule: "weak", Pre: l.Pre, P: l.P, Q: l.Q, Post: l.Post, Refs: []int{0}}
	list := []impl.Line{l, weak}
	if impl.LineFollows(list[:1], weak) || impl.DerivationHolds(list) || impl.DerivationHolds(list[:1]) || impl.DerivationHolds([]impl.Line{other, l}) || impl.DerivationHolds([]impl.Line{l, other}) {
		t.Errorf("something follows from %s", what)
	}
	if impl.DerivesTriple(list, l.Pre, l.P, l.Q, l.Post) || impl.DerivesTriple(list[:1], l.Pre, l.P, l.Q, l.Post) {
		t.Errorf("DerivesTriple with %s is true", what)
	}
	if got := impl.CountRules([]impl.Line{l, l}, l.Rule); got != 2 {
		t.Errorf("CountRules with %s = %d", what, got)
	}
}

func TestInvalidLines(t *testing.T) {
	t.Parallel()
	good := lineOf("run f ~f s t")
	set := lineOf("set t s s t")
	for _, name := range namesOfNoRule() {
		bad := good
		bad.Rule = name
		checkInvalidLine(t, "no rule", bad)
	}
	for _, rel := range append(brokenRels(), "s", "=xX", equalPairs[1:]) {
		for _, bad := range []impl.Line{good, set} {
			bad.Pre = rel
			checkInvalidLine(t, "no relation before", bad)
			bad.Post = rel
			checkInvalidLine(t, "no relations", bad)
			bad.Pre = noPairs
			checkInvalidLine(t, "no relation behind", bad)
		}
	}
	for _, p := range append(textsThatAreNoPrograms(), onlyWidePrograms()...) {
		for _, bad := range []impl.Line{good, set} {
			bad.P = p
			checkInvalidLine(t, "no first program", bad)
			bad.Q = p
			checkInvalidLine(t, "no programs", bad)
			bad.P = "~f"
			checkInvalidLine(t, "no second program", bad)
		}
	}
	for _, bad := range []impl.Line{good, set} {
		for count := 1; count < 6; count++ {
			bad.Refs = make([]int, count)
			checkInvalidLine(t, "too many Refs", bad)
		}
	}
}

// stepsByExactRules returns steps that follow by rules that ask for just one
// triple of each line. What the named lines tell need not be true.
func stepsByExactRules() [][]impl.Line {
	return [][]impl.Line{
		linesOf("set <xX s s <xX", "set t ax1 ax2 <xX", "seq t ;ax1s ;ax2s <xX 1 0"),
		linesOf("run =xX ax+x1 ax+x1 =xX", "run =xX ay1 s &=xX=y1", "seq =xX ;ax+x1ay1 ;ax+x1s &=xX=y1 0 1"),
		linesOf("run =xY @<x2s ;ss <yY", "weak t s s t 0", "run <yY /ss ~f =zZ", "seq =xY ;@<x2s/ss ;;ss~f =zZ 0 2"),
		linesOf("run =xX ;ax1s ;ss =yY", "run =yY ;s;ss s =zZ", "seq =xX ;;ax1s;s;ss ;;sss =zZ 0 1"),
		linesOf("run =xX ax1 s =x1", "run =x1 s ax2 <xX", "split =xX ax1 ax2 <xX 0 1"),
		linesOf("run =x1 s @<x2ax+x1 <xX", "run =xX ;sax1 s =x1", "split =xX ;sax1 @<x2ax+x1 <xX 1 0"),
		linesOf("run &=x1=Y0 ax2 s =zZ", "run &=x1!=Y0 ax2 ay1 =zZ", "run &!=x1=Y0 s s =zZ", "run &!=x1!=Y0 s ay1 =zZ", "if t ?=x1ax2s ?=y0say1 =zZ 0 1 2 3"),
		linesOf("run &=xX&!<xy!=Z2 ax1 ~=x0 <xX", "run &=xX&!<xy=Z2 ax1 @ts <xX", "run f s s t", "run &=xX&<xy!=Z2 /sax1 ~=x0 <xX", "run &=xX&<xy=Z2 /sax1 @ts <xX", "if =xX ?<xy/sax1ax1 ?=z2@ts~=x0 <xX 4 3 1 0"),
		linesOf("run &=xX=x1 ax2 ay1 =zZ", "run &=xX!=x1 s ay1 =zZ", "left =xX ?=x1ax2s ay1 =zZ 0 1"),
		linesOf("run &<xX!<zy @ts ?=x0sax1 f", "run &<xX<zy /saz0 ?=x0sax1 f", "left <xX ?<zy/saz0@ts ?=x0sax1 f 1 0"),
		linesOf("run &=xY=X1 ay1 ax2 =zZ", "run &=xY!=X1 ay1 s =zZ", "right =xY ay1 ?=x1ax2s =zZ 0 1"),
		linesOf("run &<xX!<ZY ?=x0sax1 @ts f", "run &<xX<ZY ?=x0sax1 /saz0 f", "right <xX ?=x0sax1 ?<zy/saz0@ts f 1 0"),
		linesOf("run &=x1&=xX&=yY=zZ ax+x1 ax2 &=xX&=yY=zZ", "while &=xX&=yY=zZ @=x1ax+x1 @=x1ax2 &!=x1&=xX&=yY=zZ 0"),
		linesOf("run &=xY<x2 ;ax+x1az1 ay+y1 =xY", "while =xY @<x2;ax+x1az1 @<y2ay+y1 &=xY=x2 0"),
		linesOf("run f s s t", "run &=xX&=yY=x0 ~f ax+x1 &=xX|=yY!=x0", "while &=xX|=yY!=x0 @=x0~f @=x0ax+x1 &!=x0=xX 1"),
		linesOf("run &=x0=X1 s s |&=x0=X1&=x2=X2", "while |&=x0=X1&=x2=X2 @<x2s @<x2s &=x2=X2 0"),
	}
}

// stepsByOtherRules returns steps that follow by rules that ask for no lines, or
// for one that is stronger.
func stepsByOtherRules() [][]impl.Line {
	return [][]impl.Line{
		linesOf("set =x+X1 ax+x1 ax+x2 =xX"), linesOf("set =xY s s =xY"), linesOf("set t ax1 ax1 =xX"), linesOf("set f ax1 ax2 =xX"), linesOf("set =X1 ax1 s =xX"), linesOf("set =x2 s ay2 =xY"), linesOf("set t s s t"), linesOf("set f s s f"), linesOf("set =yX axy azx =xZ"),
		linesOf("run t @<x2ax+x1 ax2 =xX"), linesOf("run &=xX&=yY=zZ @<x2ax+x1 ax2 &=xX&=yY=zZ"), linesOf("run f s s f"), linesOf("run t ~f s f"), linesOf("run t s @ts f"), linesOf("run =X1 ax1 s =xX"), linesOf("run &=x0=X1 ax1 s =xX"), linesOf("run !=x0 ~=x0 s f"), linesOf("run t /ax0ax1 ;ax2s <xX"), linesOf("run <xX s s <xX"),
		linesOf("run =X1 ax1 s =xX", "weak &=x0=X1 ax1 s |=xX=x0 0"), linesOf("run =X1 ax1 s =xX", "weak =X1 ax1 s =xX 0"), linesOf("run =xX ;ss ;ss =xX", "run <xX ;ss ;ss <xX", "weak <xX ;ss ;ss !=xX 1"), linesOf("run t @ts s f", "weak f @ts s t 0"),
		// The named line need not follow.
		linesOf("run t s s f", "weak t s s f 0"), linesOf("weak =xX ax1 ax2 f 5", "weak &=xX=x1 ax1 ax2 f 0"), linesOf("while t s s f 7", "weak =xX s s =zZ 0"),
	}
}

func TestEachRule(t *testing.T) {
	t.Parallel()
	followed := map[string]int{}
	for _, list := range append(stepsByExactRules(), stepsByOtherRules()...) {
		s := stepOf(list)
		followed[s.line.Rule]++
		wantFollows(t, s, true)
		if !modelFollows(s.before, s.line) {
			t.Errorf("the model of %s is wrong", shownStep(s))
		}
		// Lines that are not named may be anything, and stand behind those that are.
		longer := append(slices.Clone(s.before), impl.Line{}, lineOf("run t s s f"), impl.Line{Rule: "set", Pre: "x"})
		wantFollows(t, modelStep{longer, s.line}, true)
	}
	for rule := range ruleNeeds() {
		if followed[rule] < 2 {
			t.Errorf("the rule %s is looked at in %d steps", rule, followed[rule])
		}
	}
}

// The same lines may be named again, for other lines and for the same line.
func TestLinesThatAreNamedTwice(t *testing.T) {
	t.Parallel()
	for _, list := range [][]impl.Line{
		linesOf("run =xX s s =xX", "seq =xX ;ss ;ss =xX 0 0"),
		linesOf("run =xX s s =xX", "split =xX s s =xX 0 0"),
		linesOf("run f s s =xX", "if f ?=x1ss ?=y1ss =xX 0 0 0 0"),
		linesOf("run f ax1 s =xX", "left f ?=x1ax1ax1 s =xX 0 0"),
		linesOf("run f s ax1 =xX", "right f s ?=x1ax1ax1 =xX 0 0"),
		linesOf("run =xX s s =xX", "seq =xX ;ss ;ss =xX 0 0", "seq =xX ;;sss ;;sss =xX 1 0", "weak =xX s s =xX 0"),
		linesOf("set t s s t", "run f s s t", "weak &=x0=X0 s s t 0", "weak &=x0!=X0 s s t 0", "if =x0 ?=x0ss ?=x0ss t 2 3 1 1"),
	} {
		wantFollows(t, stepOf(list), true)
		wantDerivation(t, list, modelDerivation(list))
	}
}

func TestLinesThatDifferInOneThing(t *testing.T) {
	t.Parallel()
	for _, list := range stepsByExactRules() {
		for _, s := range stepOf(list).changes() {
			wantFollows(t, s, false)
			if modelFollows(s.before, s.line) {
				t.Errorf("the model of %s is wrong", shownStep(s))
			}
		}
	}
	for _, list := range stepsByOtherRules() {
		for _, s := range stepOf(list).changes() {
			wantFollows(t, s, modelFollows(s.before, s.line))
		}
	}
}

// A line with the name of another rule, with as many Refs as this needs.
func TestLinesWithOtherRules(t *testing.T) {
	t.Parallel()
	for _, list := range append(stepsByExactRules(), stepsByOtherRules()...) {
		s := stepOf(list)
		for rule, needs := range ruleNeeds() {
			for turn := range 2 {
				changed := s.with(len(s.before), func(l *impl.Line) {
					l.Rule = rule
					if len(l.Refs) > 0 || len(s.before) == 0 {
						l.Refs = slices.Repeat(append(l.Refs, 0), 5)[turn:][:needs]
					}
				})
				wantFollows(t, changed, modelFollows(changed.before, changed.line))
			}
		}
	}
}

func TestLinesThatDoNotFollow(t *testing.T) {
	t.Parallel()
	for _, list := range [][]impl.Line{
		// The rule set is for s and a alone, and for the weakest relation.
		linesOf("set =xX ;ss s =xX"), linesOf("set =xX s ;ss =xX"), linesOf("set t ~f s f"), linesOf("set t s ~f f"), linesOf("set =X1 /ax1ax1 s =xX"), linesOf("set =xX ?tss s =xX"), linesOf("set =xX s @fs =xX"), linesOf("set =xX s ~t =xX"),
		linesOf("set f s s =xX"), linesOf("set t s s =xX"), linesOf("set &=X1=x0 ax1 s =xX"), linesOf("set =x1 ax1 s =xX"),
		linesOf("run t s s =xX"), linesOf("run =xX s ax1 =xX"), linesOf("run =xX ax1 s =xX"), linesOf("run =xX /ax0ax1 /ax0ax1 =xX"), linesOf("run =x0 ~=x0 s f"),
		// Not weaker, but stronger, and other programs, also such that do the same.
		linesOf("run =xX s s =xX", "weak t s s =xX 0"), linesOf("run =xX s s =xX", "weak =xX s s f 0"), linesOf("run f s s f", "weak =xX s s =xX 0"), linesOf("run =xX s s =xX", "weak =xX s ;ss =xX 0"), linesOf("run =xX s s =xX", "weak =xX axx s =xX 0"), linesOf("run =xX s ax1 =xX", "weak =xX ax1 s =xX 0"), linesOf("run <xX s s <xX", "weak <xX s s <Xx 0"), linesOf("run <xX s s <xX", "run f s s f", "weak <xX s s <xX 1"),
		linesOf("run =xX s s =xX", "run =xX ax1 ax1 =xX", "seq =xX ;sax1 ;sax1 =xX 1 0"), linesOf("run =xX s s =xX", "run =xX ax1 ax1 =xX", "seq =xX ;ax1s ;ax1s =xX 0 1"), linesOf("run t s s =yY", "run =xX s s =xX", "seq t ;ss ;ss =xX 0 1"), linesOf("run f s s f", "run =xX s s =xX", "seq f ;ss ;ss =xX 0 1"), linesOf("run =xX s s t", "run =xX s s =xX", "seq =xX ;ss ;ss =xX 0 1"), linesOf("run =xX s s =xX", "run =xX s s =xX", "seq =xX ;ss s =xX 0 1"), linesOf("run =xX s s =xX", "run =xX s s =xX", "seq =xX s ;ss =xX 0 1"), linesOf("run =xX s s =xX", "run =xX s s =xX", "seq =xX /ss /ss =xX 0 1"), linesOf("run =xX s s =xX", "run =xX s s =xX", "seq =xX ?tss ?tss =xX 0 1"),
		// Both programs of a line of split, and which of them comes first.
		linesOf("run =xX ax1 s =x1", "run =x1 s ax2 <xX", "split =xX ax1 ax2 <xX 1 0"), linesOf("run =xX s ax2 =X2", "run =X2 ax1 s <xX", "split =xX ax1 ax2 <xX 0 1"), linesOf("run =xX s ax2 =X2", "run =X2 ax1 s <xX", "split =xX ax1 ax2 <xX 1 0"), linesOf("run =xX ax1 ~t =x1", "run =x1 s ax2 <xX", "split =xX ax1 ax2 <xX 0 1"), linesOf("run =xX ax1 s t", "run =x1 s ax2 <xX", "split =xX ax1 ax2 <xX 0 1"),
		// The lines of the first part and the second one, and the other way round.
		linesOf("run &=x1=Y0 ax2 s t", "run &=x1!=Y0 ax2 ay1 t", "run &!=x1=Y0 s s t", "run &!=x1!=Y0 s ay1 t", "if t ?=x1ax2s ?=y0say1 t 0 2 1 3"), linesOf("run &=x1=Y0 s s t", "run &=x1!=Y0 s s t", "run &!=x1=Y0 s s t", "run &!=x1!=Y0 s s t", "if t ?=x1ss ?=y0ss t 0 2 1 3"), linesOf("run &=x1=y0 s s t", "run &=x1!=y0 s s t", "run &!=x1=y0 s s t", "run &!=x1!=y0 s s t", "if t ?=x1ss ?=y0ss t 0 1 2 3"), linesOf("run &=X1=Y0 s s t", "run &=X1!=Y0 s s t", "run &!=X1=Y0 s s t", "run &!=X1!=Y0 s s t", "if t ?=x1ss ?=y0ss t 0 1 2 3"),
		linesOf("run t s s t", "if t ?=x1ss ?=y0ss t 0 0 0 0"), linesOf("run f s s t", "if f ?=x1ss s t 0 0 0 0"), linesOf("run f s s t", "if f s ?=x1ss t 0 0 0 0"), linesOf("run f s s t", "if f s s t 0 0 0 0"), linesOf("run f s s t", "if f /ss /ss t 0 0 0 0"), linesOf("run f s s t", "if f ;ss ;ss t 0 0 0 0"),
		// The test of the first program speaks of the first state, and likewise.
		linesOf("run =x1 s ax1 t", "run !=x1 ay1 ax1 t", "right t s ?=x1say1 t 0 1"), linesOf("run =X1 s ax1 t", "run !=X1 ay1 ax1 t", "left t ?=x1say1 ax1 t 0 1"), linesOf("run =x1 ax1 s t", "run !=x1 ax1 ay1 t", "right t ax1 ?=x1say1 t 0 1"), linesOf("run =X1 ax1 s t", "run !=X1 ax1 ay1 t", "left t ax1 ?=x1say1 t 0 1"),
		linesOf("run =x1 s ?=x1ss t", "run !=x1 s ?=x1ss t", "right t ?=x1ss ?=x1ss t 0 1"), linesOf("run =X1 ?=x1ss s t", "run !=X1 ?=x1ss s t", "left t ?=x1ss ?=x1ss t 0 1"), linesOf("run f s s t", "left f s ?=x1ss t 0 0"), linesOf("run f s s t", "right f ?=x1ss s t 0 0"), linesOf("run f s s t", "left f /ss s t 0 0"), linesOf("run f s s t", "right f s ;ss t 0 0"), linesOf("run f s s t", "left f @ts s t 0 0"),
		linesOf("run =xX s s =xX", "while =xX @<x2s @<x2s =xX 0"), linesOf("run &=xX<x2 s s =xX", "while =xX @<x2s @<x2s =xX 0"), linesOf("run &=xX<x2 s s =xX", "while =xX @<x2s @<x2s f 0"), linesOf("run &=xX<x2 s s =xX", "while =xX @<x2s @<x2s &=xX<x2 0"), linesOf("run &=xX<x2 s s =xX", "while =xX @<x2s @<x2s =x2 0"), linesOf("run &=xX<x2 s s t", "while =xX @<x2s @<x2s &=xX=x2 0"), linesOf("run &=xX<x2 s s &=xX=x2", "while =xX @<x2s @<x2s &=xX=x2 0"),
		linesOf("run f s s f", "while f @<x2s s f 0"), linesOf("run f s s f", "while f s @<x2s f 0"), linesOf("run f s s f", "while f s s f 0"), linesOf("run f s s f", "while f ?<x2ss ?<x2ss f 0"), linesOf("run &=xX<x2 @<x2s @<x2s =xX", "while =xX @<x2s @<x2s &=xX=x2 0"),
	} {
		wantFollows(t, stepOf(list), false)
		if s := stepOf(list); modelFollows(s.before, s.line) {
			t.Errorf("the model of %s is wrong", shownStep(s))
		}
	}
}

// In no pair of Pre, one test is true and the other one is not.
func TestLoopsWhoseTestsDoNotAgree(t *testing.T) {
	t.Parallel()
	for _, c := range []struct{ p, q, t, u string }{{"@<x2s", "@<y2s", "<x2", "<Y2"}, {"@=xys", "@!=z0s", "=xy", "!=Z0"}, {"@ts", "@=x0s", "t", "=X0"}, {"@=x0s", "@fs", "=x0", "f"}, {"@ts", "@fs", "t", "f"}} {
		both, neither := modelRelOf("&"+c.t+c.u), modelRelOf("&!"+c.t+"!"+c.u)
		for k := 0; k < 729; k += 2 {
			pre := modelOr(modelOr(both, neither), singlePair(k/27, k%27))
			body := impl.Line{Rule: "run", Pre: modelAnd(pre, both), P: "s", Q: "s", Post: pre}
			l := impl.Line{Rule: "while", Pre: pre, P: c.p, Q: c.q, Post: modelAnd(pre, neither), Refs: []int{0}}
			agree := both[k] == '1' || neither[k] == '1'
			wantFollows(t, modelStep{[]impl.Line{body}, l}, agree)
			wantDerivation(t, []impl.Line{body, l}, agree)
			if agree {
				continue
			}
			// Nor does the line follow if the pair is counted to the ends, or to the turns.
			s := modelStep{[]impl.Line{body}, l}
			for _, test := range []string{c.t, c.u} {
				ends := s.with(1, func(l *impl.Line) { l.Post = modelAnd(pre, modelRelOf("!"+test)) })
				wantFollows(t, ends, false)
				turns := s.with(0, func(l *impl.Line) { l.Pre = modelAnd(pre, modelRelOf(test)) })
				wantFollows(t, turns, false)
				turns.line.Post = ends.line.Post
				wantFollows(t, turns, false)
			}
		}
	}
	// No pairs agree with any tests.
	for _, q := range []string{"@ts", "@fs", "@=x0s"} {
		wantDerivation(t, linesOf("run f s s f", "while f @ts "+q+" f 0"), true)
	}
}

// fillers returns lines that follow from no others.
func fillers(count int) []impl.Line {
	return slices.Repeat(linesOf("run =xX s s =xX"), count)
}

func TestLinesBefore(t *testing.T) {
	t.Parallel()
	for _, count := range []int{0, 1, 2, 58, 59, 60, 61, 62, 119, 600} {
		before := fillers(count)
		wantFollows(t, modelStep{before, lineOf("run =xX s s =xX")}, count < 60)
		wantFollows(t, modelStep{before, lineOf("set =X1 ax1 s =xX")}, count < 60)
		wantDerivation(t, before, count <= 60)
		wantTruth(t, "DerivesTriple of many lines", impl.DerivesTriple(before, modelRelOf("=xX"), "s", "s", modelRelOf("=xX")), 0 < count && count <= 60)
		for _, ref := range []int{0, count - 1, count, count + 1, -1, -count, 59, 60, math.MaxInt, math.MinInt, math.MaxInt32 + 1} {
			weak := lineOf("weak =xX s s =xX")
			weak.Refs = []int{ref}
			wantFollows(t, modelStep{before, weak}, count < 60 && 0 <= ref && ref < count)
			wantDerivation(t, append(slices.Clone(before), weak), count < 60 && 0 <= ref && ref < count)
			seq := lineOf("seq =xX ;ss ;ss =xX")
			seq.Refs = []int{0, ref}
			wantFollows(t, modelStep{before, seq}, count < 60 && 0 <= ref && ref < count)
			seq.Refs = []int{ref, 0}
			wantFollows(t, modelStep{before, seq}, count < 60 && 0 <= ref && ref < count)
		}
		// What is not valid counts as well, and may be there as long as it is not named.
		wantFollows(t, modelStep{make([]impl.Line, count), lineOf("run =xX s s =xX")}, count < 60)
	}
}

func TestNamedLinesThatAreNotValid(t *testing.T) {
	t.Parallel()
	weak := lineOf("weak =xX s s =xX 0")
	for rule, needs := range ruleNeeds() {
		named := lineOf(rule + " =xX s s =xX")
		for count := range 6 {
			// Only how many Refs it has matters, and not whether it follows.
			named.Refs = slices.Repeat([]int{-7}, count)
			wantFollows(t, modelStep{[]impl.Line{named}, weak}, count == needs)
			wantFollows(t, modelStep{append(fillers(1), named), weak}, true)
			for n := range 4 {
				four := append(linesOf("run f s s t", "run f s s t", "run f s s t", "run f s s t"), lineOf("if f ?=x1ss ?=y1ss t 0 1 2 3"))
				four[n].Rule, four[n].Refs = named.Rule, named.Refs
				wantFollows(t, stepOf(four), count == needs)
			}
		}
	}
	for _, name := range namesOfNoRule() {
		named := lineOf("run =xX s s =xX")
		named.Rule = name
		wantFollows(t, modelStep{[]impl.Line{named}, weak}, false)
		wantFollows(t, modelStep{append(fillers(1), named), weak}, true)
	}
	// Of both lines of seq and split, and of what is not valid in them.
	for _, line := range []impl.Line{lineOf("seq =xX ;ss ;ss =xX 0 1"), lineOf("split =xX s s =xX 0 1")} {
		for n := range 2 {
			before := fillers(2)
			wantFollows(t, modelStep{before, line}, true)
			for _, bad := range []impl.Line{{}, {Rule: "run", Pre: before[n].Pre, P: "s", Q: "s"}, {Rule: "run", P: "s", Q: "s", Post: before[n].Post}, {Rule: "x", Pre: before[n].Pre, P: "s", Q: "s", Post: before[n].Post}} {
				before[n] = bad
				wantFollows(t, modelStep{before, line}, false)
			}
		}
	}
}

func TestLinesThatNameThemselves(t *testing.T) {
	t.Parallel()
	same := linesOf("weak =xX s s =xX 0")
	wantDerivation(t, same, false)
	wantDerivation(t, linesOf("weak f s s t 0"), false)
	wantDerivation(t, linesOf("run =xX s s =xX", "weak =xX s s =xX 1"), false)
	wantDerivation(t, linesOf("run =xX s s =xX", "weak =xX s s =xX 0"), true)
	wantDerivation(t, linesOf("weak =xX s s =xX 1", "run =xX s s =xX"), false)
	// Each names the other one.
	wantDerivation(t, linesOf("weak =xX s s =xX 1", "weak =xX s s =xX 0"), false)
	wantDerivation(t, linesOf("run =xX s s =xX", "weak =xX s s =xX 2", "weak =xX s s =xX 1"), false)
	wantDerivation(t, linesOf("split =xX s s =xX 0 0"), false)
	wantDerivation(t, linesOf("run =xX s s =xX", "split =xX s s =xX 0 1"), false)
	wantDerivation(t, linesOf("run =xX s s =xX", "split =xX s s =xX 1 0"), false)
	wantDerivation(t, linesOf("run =xX s s =xX", "split =xX s s =xX 0 0", "split =xX s s =xX 1 0"), true)
	wantDerivation(t, linesOf("while f @fs @fs f 0"), false)
	// The line would follow if its own claim were true.
	wantTruth(t, "LineFollows of a line before it that is the same", impl.LineFollows(same, same[0]), true)
}

func TestDerivations(t *testing.T) {
	t.Parallel()
	wantDerivation(t, nil, true)
	wantDerivation(t, []impl.Line{}, true)
	for _, list := range append(stepsByExactRules(), stepsByOtherRules()...) {
		wantDerivation(t, list, modelDerivation(list))
		// Any line that does not follow counts, wherever it is, and whether it is named or not.
		for at := range len(list) + 1 {
			for _, wrong := range []impl.Line{{}, lineOf("run t s s f"), lineOf("weak =xX s s =xX 60")} {
				longer := append(slices.Clone(list[:at]), wrong)
				wantDerivation(t, append(longer, list[at:]...), false)
			}
		}
	}
	list := append(linesOf("run &=x1&=xX&=yY=zZ ax+x1 ax2 &=xX&=yY=zZ", "while &=xX&=yY=zZ @=x1ax+x1 @=x1ax2 &!=x1&=xX&=yY=zZ 0"), fillers(58)...)
	wantDerivation(t, list, true)
	wantDerivation(t, append(list, fillers(1)...), false)
	// Weaker and weaker lines, each from the last one.
	for count := 1; count <= 61; count += 20 {
		chained := fillers(1)
		for len(chained) < count {
			weak := lineOf("weak =xX s s =xX")
			weak.Refs = []int{len(chained) - 1}
			chained = append(chained, weak)
		}
		wantDerivation(t, chained, count <= 60)
		slices.Reverse(chained)
		wantDerivation(t, chained, count == 1)
	}
}

func TestDerivesTriple(t *testing.T) {
	t.Parallel()
	lists := append(stepsByExactRules(), stepsByOtherRules()...)
	lists = append(lists, fillers(59), fillers(60), fillers(61))
	held := 0
	for _, list := range lists {
		l, holds := list[len(list)-1], modelDerivation(list)
		wantTruth(t, "DerivesTriple", impl.DerivesTriple(list, l.Pre, l.P, l.Q, l.Post), holds)
		if holds {
			held++
		}
		for n, rel := range append(otherRels(l.Pre), "", "x", l.Pre+"0") {
			wantTruth(t, "DerivesTriple of another relation before", impl.DerivesTriple(list, rel, l.P, l.Q, l.Post), false)
			post := append(otherRels(l.Post), "", "x", l.Post+"0")
			wantTruth(t, "DerivesTriple of another relation behind", impl.DerivesTriple(list, l.Pre, l.P, l.Q, post[n%len(post)]), false)
		}
		for _, p := range append(otherPrograms(l.P), "", "x", l.P+" ") {
			wantTruth(t, "DerivesTriple of another first program", impl.DerivesTriple(list, l.Pre, p, l.Q, l.Post), false)
		}
		for _, q := range append(otherPrograms(l.Q), "", "x", l.Q+" ") {
			wantTruth(t, "DerivesTriple of another second program", impl.DerivesTriple(list, l.Pre, l.P, q, l.Post), false)
		}
		// Only the last line counts.
		last := lineOf("set =X1 ax1 s =xX")
		longer := append(slices.Clone(list), last)
		wantTruth(t, "DerivesTriple of the last line", impl.DerivesTriple(longer, last.Pre, last.P, last.Q, last.Post), holds && len(longer) <= 60)
		wantTruth(t, "DerivesTriple of a line before the last one", impl.DerivesTriple(longer, l.Pre, l.P, l.Q, l.Post), holds && sameClaim(l, last))
	}
	if held < 20 {
		t.Errorf("only %d derivations hold", held)
	}
	for _, list := range [][]impl.Line{nil, {}} {
		wantTruth(t, "DerivesTriple of no lines", impl.DerivesTriple(list, equalPairs, "s", "s", equalPairs), false)
		wantTruth(t, "DerivesTriple of no lines and no pairs", impl.DerivesTriple(list, noPairs, "s", "s", everyPair), false)
		wantTruth(t, "DerivesTriple of nothing", impl.DerivesTriple(list, "", "", "", ""), false)
	}
	wantTruth(t, "DerivesTriple of a line that is nothing", impl.DerivesTriple([]impl.Line{{}}, "", "", "", ""), false)
}

func TestCountRules(t *testing.T) {
	t.Parallel()
	list := linesOf("run =xX s s =xX", "weak f s s t 0", "run t s s f", "weak f s s t", "set t s s f")
	list = append(list, impl.Line{}, impl.Line{Rule: "run"}, impl.Line{Rule: "x", Pre: "y", P: "z", Refs: []int{-1, -2}}, impl.Line{Rule: "Run"}, impl.Line{Rule: "x"}, impl.Line{Rule: "x "}, impl.Line{Rule: "\xff"})
	for rule, want := range map[string]int{"run": 3, "weak": 2, "set": 1, "": 1, "x": 2, "x ": 1, "Run": 1, "\xff": 1, "\xfe": 0, "while": 0, "ru": 0, "runs": 0, "RUN": 0, "if": 0, " ": 0} {
		if got := impl.CountRules(list, rule); got != want {
			t.Errorf("CountRules of %q = %d, want %d", rule, got, want)
		}
		if got := impl.CountRules(nil, rule) + impl.CountRules([]impl.Line{}, rule); got != 0 {
			t.Errorf("CountRules of no lines and %q = %d", rule, got)
		}
		// There may be more lines than a derivation has.
		if got := impl.CountRules(slices.Repeat(list, 50), rule); got != 50*want {
			t.Errorf("CountRules of many lines and %q = %d, want %d", rule, got, 50*want)
		}
	}
	for _, rule := range append(namesOfNoRule(), "set", "if", "split") {
		if got := impl.CountRules([]impl.Line{{Rule: rule}, {Rule: rule + "!"}, {Rule: rule}}, rule); got != 2 {
			t.Errorf("CountRules of %.60q = %d, want 2", rule, got)
		}
	}
}

// checkBuilt compares what BuildDerivation returns with the model and with what
// the other functions tell of it. It returns how many lines there would be.
func checkBuilt(t *testing.T, p, q, post string) int {
	t.Helper()
	count := modelCountBuilt(p, q)
	got, ok := impl.BuildDerivation(p, q, post)
	if count > 60 {
		if len(got) != 0 || ok {
			t.Errorf("BuildDerivation(%q, %q, %q) = %s, %v", p, q, post, shownLines(got), ok)
		}
		return count
	}
	want := modelBuild(0, p, q, post)
	if !ok || !slices.EqualFunc(got, want, sameLine) || len(got) != count {
		t.Fatalf("BuildDerivation(%q, %q, %q) = %s, %v, want %s of %d lines", p, q, post, shownLines(got), ok, shownLines(want), count)
	}
	last := got[len(got)-1]
	free, _ := impl.PairFree(p, q, post)
	wantText(t, "Pre of the last line for "+p+" and "+q, last.Pre, ok, free, true)
	wantDerivation(t, got, true)
	wantTruth(t, "DerivesTriple of "+p+" and "+q, impl.DerivesTriple(got, free, p, q, post), true)
	wantTruth(t, "PairHolds of "+p+" and "+q, impl.PairHolds(last.Pre, p, q, post), true)
	// Nothing more is derived by the rule weak.
	for n, pre := range []string{withOneMore(free, count), noPairs} {
		weak := impl.Line{Rule: "weak", Pre: pre, P: p, Q: q, Post: post, Refs: []int{len(got) - 1}}
		wantFollows(t, modelStep{got, weak}, n == 1 || pre == free)
	}
	return count
}

// Promise 9, its second half.
func TestTheWeakestTripleIsDerived(t *testing.T) {
	t.Parallel()
	rels := someRels()
	long, short, tooLong := 0, 0, 0
	for n, both := range programsToDerive() {
		for k := range 2 {
			switch count := checkBuilt(t, both[k], both[1-k], rels[(n*7+k*5)%len(rels)]); {
			case count > 60:
				tooLong++
			case count > 8:
				long++
			case count > 1:
				short++
			}
		}
	}
	if long < 80 || short < 60 || tooLong < 4 {
		t.Errorf("only %d derivations are long, %d short, and %d too long", long, short, tooLong)
	}
}

func TestBuildDerivation(t *testing.T) {
	t.Parallel()
	cases := []struct {
		p, q, post string
		want       []impl.Line
	}{
		{"s", "s", "=xY", linesOf("set =xY s s =xY")}, {"s", "ax1", "=xX", linesOf("set =x1 s ax1 =xX")}, {"ax+x1", "ax+x2", "=xX", linesOf("set =x+X1 ax+x1 ax+x2 =xX")}, {"ax1", "s", "f", linesOf("set f ax1 s f")}, {"s", "s", "t", linesOf("set t s s t")},
		{"~=x0", "s", "f", linesOf("run !=x0 ~=x0 s f")}, {"s", "~=x0", "f", linesOf("run !=X0 s ~=x0 f")}, {"@<x2ax+x1", "ax2", "=xX", linesOf("run t @<x2ax+x1 ax2 =xX")}, {"@<x2ax+x1", "@<x2ax+x1", "=xX", linesOf("run t @<x2ax+x1 @<x2ax+x1 =xX")}, {"/ax0ax1", "/ax0ax1", "=xX", linesOf("run f /ax0ax1 /ax0ax1 =xX")}, {"~t", "~t", "=xX", linesOf("run =xX ~t ~t =xX")},
		// Of two kinds, there is one line.
		{";ss", "s", "=xX", linesOf("run =xX ;ss s =xX")}, {"s", ";ss", "=xX", linesOf("run =xX s ;ss =xX")}, {"?=x0ss", ";ss", "=xX", linesOf("run =xX ?=x0ss ;ss =xX")}, {"ax1", "?=x0sax1", "=xX", linesOf("run !=X0 ax1 ?=x0sax1 =xX")[:0]},
		{";ax1s", ";ax2s", "<xX", linesOf("set <xX s s <xX", "set t ax1 ax2 <xX", "seq t ;ax1s ;ax2s <xX 1 0")},
		{";ax1;ayx~=z0", ";s;ayxs", "=yY", linesOf("run |!=z0=yY ~=z0 s =yY", "set |!=z0=xX ayx ayx |!=z0=yY", "seq |!=z0=xX ;ayx~=z0 ;ayxs =yY 1 0", "set |!=z0=X1 ax1 s |!=z0=xX", "seq |!=z0=X1 ;ax1;ayx~=z0 ;s;ayxs =yY 3 2")},
		{";;sax1s", ";;sss", "=xX", linesOf("set =xX s s =xX", "set =X1 ax1 s =xX", "set =X1 s s =X1", "seq =X1 ;sax1 ;ss =xX 2 1", "seq =X1 ;;sax1s ;;sss =xX 3 0")},
		{"?=x1ax2s", "?=y0say1", "=xX", linesOf("set =X2 ax2 s =xX", "weak &=X2&=x1=Y0 ax2 s =xX 0", "set =X2 ax2 ay1 =xX", "weak &=X2&=x1!=Y0 ax2 ay1 =xX 2", "set =xX s s =xX", "weak &=xX&!=x1=Y0 s s =xX 4", "set =xX s ay1 =xX", "weak &=xX&!=x1!=Y0 s ay1 =xX 6", "if |&=X2=x1&!=x1=xX ?=x1ax2s ?=y0say1 =xX 1 3 5 7")},
		{";?=x1ax2ss", ";?=y0say1s", "=xX", linesOf("set =xX s s =xX", "set =X2 ax2 s =xX", "weak &=X2&=x1=Y0 ax2 s =xX 1", "set =X2 ax2 ay1 =xX", "weak &=X2&=x1!=Y0 ax2 ay1 =xX 3", "set =xX s s =xX", "weak &=xX&!=x1=Y0 s s =xX 5", "set =xX s ay1 =xX", "weak &=xX&!=x1!=Y0 s ay1 =xX 7", "if |&=X2=x1&!=x1=xX ?=x1ax2s ?=y0say1 =xX 2 4 6 8", "seq |&=X2=x1&!=x1=xX ;?=x1ax2ss ;?=y0say1s =xX 9 0")},
	}
	for _, c := range cases {
		checkBuilt(t, c.p, c.q, modelRelOf(c.post))
		got, ok := impl.BuildDerivation(c.p, c.q, modelRelOf(c.post))
		if len(c.want) > 0 && (!ok || !slices.EqualFunc(got, c.want, sameLine)) {
			t.Errorf("BuildDerivation of %s, %s and %s = %s, %v, want %s", c.p, c.q, c.post, shownLines(got), ok, shownLines(c.want))
		}
	}
}

// Each derivation has an odd number of lines, so that 59 and 61 are those next to
// the limit.
func TestDerivationsNearTheLimit(t *testing.T) {
	t.Parallel()
	nested := "?=x0?=y0ss?=z0ss"
	for _, c := range []struct {
		p, q  string
		count int
	}{
		{strings.Repeat(";s", 29) + "s", strings.Repeat(";s", 29) + "s", 59}, {strings.Repeat(";s", 30) + "s", strings.Repeat(";s", 30) + "s", 61}, {strings.Repeat(";s", 31) + "s", strings.Repeat(";s", 31) + "s", 63},
		{strings.Repeat(";", 29) + strings.Repeat("s", 30), strings.Repeat(";", 29) + strings.Repeat("s", 30), 59}, {strings.Repeat(";", 30) + strings.Repeat("s", 31), strings.Repeat(";", 30) + strings.Repeat("s", 31), 61},
		// What only one of both has in sequence is one line.
		{strings.Repeat(";s", 30) + "s", strings.Repeat(";s", 29) + "s", 59}, {strings.Repeat(";s", 29) + "s", strings.Repeat(";s", 90) + "s", 59}, {strings.Repeat(";s", 90) + "s", strings.Repeat(";", 90) + strings.Repeat("s", 91), 3},
		{strings.Repeat(";?=x0ss", 5) + "?=x0ss", strings.Repeat(";?=y0ss", 5) + "?=y0ss", 59}, {strings.Repeat(";?=x0ss", 6) + "s", strings.Repeat(";?=y0ss", 6) + "s", 61}, {strings.Repeat(";?=x0ss", 5) + "~=x0", strings.Repeat(";?=y0ss", 5) + "s", 51},
		{nested, nested, 41}, {";" + nested + "?=x0ss", ";" + nested + "?=x0ss", 51}, {";" + nested + ";?=x0ss" + ";s;s;ss", ";" + nested + ";?=x0ss" + ";s;s;ss", 59}, {";" + nested + ";?=x0ss" + ";s;s;s;ss", ";" + nested + ";?=x0ss" + ";s;s;s;ss", 61},
		{"?=x0;ss" + nested, "?=x1;ss" + nested, 51}, {"?=x0;;s;s;sss" + nested, "?=x1;;s;s;sss" + nested, 57}, {"?=x0;;s;s;s;sss" + nested, "?=x1;;s;s;s;sss" + nested, 59}, {"?=x0;;s;s;s;s;sss" + nested, "?=x1;;s;s;s;s;sss" + nested, 61},
		{nested, "?=x0ss", 9}, {"?=x0" + nested + "s", "?=x0s" + nested, 49}, {"?=x0" + nested + nested, "?=x0" + nested + nested, 169}, {"@t" + strings.Repeat(";s", 90) + "s", "@t" + strings.Repeat(";s", 90) + "s", 1}, {"/" + nested + nested, "/" + nested + nested, 1},
	} {
		for n, post := range []string{equalPairs, modelRelOf("<xX")} {
			if n == 0 || c.count < 62 {
				if count := checkBuilt(t, c.p, c.q, post); count != c.count {
					t.Errorf("the derivation of %s and %s has %d lines, and not %d", c.p, c.q, count, c.count)
				}
			}
		}
	}
}

// Derivations of thousands of lines are not built.
func TestDerivationsOfManyLines(t *testing.T) {
	t.Parallel()
	ifs := "s"
	for len(ifs) <= 95 {
		ifs = "?t" + ifs + ifs
	}
	for _, p := range append(fullPrograms(), ifs, strings.Repeat("?t", 66)+strings.Repeat("s", 67), strings.Repeat("?ts", 66)+"s", strings.Repeat(";", 99)+strings.Repeat("s", 100)) {
		for _, q := range []string{p, modelSwap(p, "x", "z")} {
			count := modelCountBuilt(p, q)
			got, ok := impl.BuildDerivation(p, q, equalPairs)
			if ok != (count <= 60) || ok != (len(got) > 0) || ok && len(got) != count {
				t.Errorf("BuildDerivation(%q, %q) has %d lines, %v, and not %d", p, q, len(got), ok, count)
			}
		}
	}
}

func TestBuildDerivationOfInvalidArguments(t *testing.T) {
	t.Parallel()
	want := func(p, q, post string) {
		t.Helper()
		if got, ok := impl.BuildDerivation(p, q, post); len(got) != 0 || ok {
			t.Errorf("BuildDerivation(%.60q, %.60q, %.60q) = %s, %v", p, q, post, shownLines(got), ok)
		}
	}
	for _, bad := range append(textsThatAreNoPrograms(), onlyWidePrograms()...) {
		want(bad, "s", equalPairs)
		want("s", bad, equalPairs)
		want(bad, bad, noPairs)
		want(bad, "~f", everyPair)
	}
	for _, bad := range append(brokenRels(), "s", "=xX", equalPairs[1:]) {
		want("s", "s", bad)
		want("~f", "@ts", bad)
		want(";ss", ";ss", bad)
		want("x", "s", bad)
	}
}

// Results are new memory, and arguments stay as they are.
func TestDerivationsAreNewMemory(t *testing.T) {
	t.Parallel()
	p := ";?=x0ss;ax1?=y1ss"
	want, _ := impl.BuildDerivation(p, p, equalPairs)
	want = copyOf(want)
	got, _ := impl.BuildDerivation(p, p, equalPairs)
	for i := range got {
		// What is behind the Refs of a line belongs to no other line.
		_ = append(got[i].Refs, -1, -2, -3, -4, -5)
	}
	if !slices.EqualFunc(got, want, sameLine) {
		t.Errorf("the lines share Refs: %s", shownLines(got))
	}
	list := copyOf(want)
	if !impl.DerivationHolds(list) || !impl.LineFollows(list[:len(list)-1], list[len(list)-1]) || !impl.DerivesTriple(list, want[len(want)-1].Pre, p, p, equalPairs) {
		t.Error("the derivation should hold")
	}
	impl.CountRules(list, "set")
	impl.LineValid(list[0])
	if !slices.EqualFunc(list, want, sameLine) {
		t.Errorf("the lines have been changed: %s", shownLines(list))
	}
	for i := range got {
		got[i] = impl.Line{}
	}
	again, _ := impl.BuildDerivation(p, p, equalPairs)
	if !slices.EqualFunc(again, want, sameLine) {
		t.Errorf("BuildDerivation after a change of its result = %s", shownLines(again))
	}
}

// Promise 9, its first half: derivations of any form, and those that differ from
// them in one thing, hold as the model tells, and what they derive is true.
func TestWhatIsDerivedIsTrue(t *testing.T) {
	t.Parallel()
	rels := someRels()
	prover := &modelProver{seed: 9}
	used := map[string]int{}
	held, wrong := 0, 0
	for n, both := range programsToDerive() {
		for k := range 2 {
			prover.lines = nil
			prover.prove(both[k], both[1-k], rels[(n*5+k)%len(rels)], 1+(n+k)%3)
			list := prover.lines
			for _, l := range list {
				used[l.Rule]++
			}
			checkTrue(t, list, len(list) <= 60)
			for range 3 {
				changed := prover.changedLines(list)
				holds := modelDerivation(changed)
				checkTrue(t, changed, holds)
				if holds {
					held++
				} else {
					wrong++
				}
			}
		}
	}
	for rule := range ruleNeeds() {
		if used[rule] < 25 {
			t.Errorf("the rule %s is used only %d times", rule, used[rule])
		}
	}
	if held < 100 || wrong < 200 {
		t.Errorf("only %d changed derivations hold, and %d do not", held, wrong)
	}
}

// checkTrue checks that a derivation holds as told, and that if so, all of its
// lines are true.
func checkTrue(t *testing.T, list []impl.Line, holds bool) {
	t.Helper()
	wantDerivation(t, list, holds)
	if !holds {
		return
	}
	for _, l := range list {
		if !isTrue(l) || !impl.PairHolds(l.Pre, l.P, l.Q, l.Post) {
			t.Errorf("%s of a derivation that holds is not true", shownLines([]impl.Line{l}))
		}
	}
	if last := list[len(list)-1]; !impl.DerivesTriple(list, last.Pre, last.P, last.Q, last.Post) {
		t.Errorf("DerivesTriple of the last one of %s is false", shownLines(list))
	}
}

// changedLines returns lines with one change: of some pairs, of a program, of the
// rule, of a number, or of the order of lines.
func (m *modelProver) changedLines(list []impl.Line) []impl.Line {
	list = copyOf(list)
	at := m.choose(len(list))
	l := &list[at]
	other := list[m.choose(len(list))]
	switch m.choose(8) {
	case 0:
		l.Pre = otherwise(l.Pre, m.choose(729))
	case 1:
		l.Post = otherwise(l.Post, m.choose(729))
	case 2:
		l.Pre = modelAnd(l.Pre, other.Pre)
	case 3:
		l.Post = modelOr(l.Post, other.Post)
	case 4:
		l.P, l.Q = other.P, other.Q
	case 5:
		l.Rule = other.Rule
	case 6:
		if len(l.Refs) > 0 {
			l.Refs[m.choose(len(l.Refs))] = m.choose(len(list)+1) - 1
		}
	case 7:
		list = slices.Delete(list, at, at+1)
		list = slices.Insert(list, m.choose(len(list)+1), other)
	}
	return list
}
