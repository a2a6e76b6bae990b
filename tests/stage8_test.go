package tests

import (
	"slices"
	"strings"
	"testing"

	"loop.example/productprograms/impl"
)

// sameStates is the wide test of equal states.
const sameStates = "&=xX&=yY=zZ"

func TestPairFree(t *testing.T) {
	t.Parallel()
	cases := []struct{ p, q, post, want string }{
		{"s", "s", "=xY", "=xY"}, {"s", "s", "f", "f"}, {"s", "s", "t", "t"}, {"ax+x1", "ax+x2", "=xX", "=x+X1"}, {"axy", "azx", "=xZ", "=yX"}, {"ax1", "ax1", "=xX", "t"}, {"ax1", "ax2", "=xX", "f"}, {"s", "ay+y1", "<yY", "<y+Y1"}, {"ay+y1", "s", "<yY", "<+y1Y"},
		{";ax1ayx", ";ax2ayx", "<yY", "t"}, {"?=x0ay1ay2", "s", "=yY", "|&=x0=Y1&!=x0=Y2"}, {"s", "?=x0ay1ay2", "=yY", "|&=X0=y1&!=X0=y2"}, {"@<x2ax+x1", "ax2", "=xX", "t"}, {"@<x2ax+x1", "@<x1ax+x1", "=xX", "=X2"},
		// If one of both does not end, or neither, any relation will do.
		{"@ts", "s", "f", "t"}, {"s", "@ts", "f", "t"}, {"@ts", "~f", "f", "t"}, {"~f", "s", "f", "t"}, {"s", "~f", "f", "t"}, {"~=x0", "s", "f", "!=x0"}, {"s", "~=x0", "f", "!=X0"}, {"~=x0", "~=y1", "f", "|!=x0!=Y1"}, {"@=x0s", "~<x2", "f", "|=x0!<X2"}, {"@=x0s", "@=z1s", "=xX", "||=x0=Z1=xX"},
		// All choices of both count.
		{"s", "/ax0ax1", "=xX", "f"}, {"/ax0ax1", "s", "=xX", "f"}, {"/ax0ax1", "/ax0ax1", "=xX", "f"}, {"/ax0ax1", "/ax0ax1", "<+xX2", "f"}, {"/ax0ax1", "/ax0ax1", "&<x2<X2", "t"}, {"/ax0ax1", "ax2", "<xX", "t"}, {"/sax0", "s", "!<Xx", "!<Xx"}, {"s", "/sax0", "!<Xx", "=x0"}, {"/s~f", "/@tss", "=xX", "=xX"},
		{"@<x2/ax+x1ax0", "ax2", "=xX", "t"}, {"@<x2/sax+x1", "@<x2/ax0ax+x1", "&=x2=X2", "t"},
	}
	for _, c := range cases {
		got, ok := impl.PairFree(c.p, c.q, modelRelOf(c.post))
		wantText(t, "PairFree of "+c.p+", "+c.q+", "+c.post, got, ok, modelRelOf(c.want), true)
		if d := duoOf(c.p, c.q); d.free(modelRelOf(c.post)) != modelRelOf(c.want) {
			t.Errorf("the model of %v is wrong", c)
		}
	}
}

func TestPairPost(t *testing.T) {
	t.Parallel()
	cases := []struct{ pre, p, q, want string }{
		{"=xY", "s", "s", "=xY"}, {"f", "s", "ax1", "f"}, {"f", "/ax0ax1", "@ts", "f"}, {"t", "s", "s", "t"}, {"t", "ax1", "s", "=x1"}, {"t", "s", "ax1", "=X1"}, {"t", "ax1", "ay2", "&=x1=Y2"}, {sameStates, "ax1", "s", "&=x1&=yY=zZ"}, {sameStates, "s", "ax1", "&=X1&=yY=zZ"}, {sameStates, "ax+x1", "s", "&=x+X1&=yY=zZ"}, {sameStates, "ax+x1", "ax+x1", sameStates},
		{sameStates, "/ax0ax1", "s", "&<x2&=yY=zZ"}, {sameStates, "/ax0ax1", "/ax1ax2", "&&<x2!=X0&=yY=zZ"}, {"&=x0=X2", "@<x2ax+x1", "@<x1ax0", "&=x2=X2"}, {"=xX", "@!=x2s", "s", "&=x2=X2"}, {"=xX", "~=x1", "s", "&=x1=X1"}, {"=xX", "s", "~=x1", "&=x1=X1"}, {"!=xX", "~=x1", "~=x1", "f"},
		{"t", "@ts", "s", "f"}, {"t", "s", "@ts", "f"}, {"t", "~f", "s", "f"}, {"t", "s", "~f", "f"}, {"t", "~f", "@ts", "f"}, {"t", "/~fs", "/@tsay0", "=Y0"}, {"=x0", "~=x1", "s", "f"}, {"=X0", "s", "@=x0s", "f"},
	}
	for _, c := range cases {
		got, ok := impl.PairPost(modelRelOf(c.pre), c.p, c.q)
		wantText(t, "PairPost of "+c.pre+", "+c.p+", "+c.q, got, ok, modelRelOf(c.want), true)
	}
}

func TestPairHolds(t *testing.T) {
	t.Parallel()
	cases := []struct {
		pre, p, q, post string
		want            bool
	}{
		{sameStates, "s", "s", sameStates, true}, {"t", "s", "s", sameStates, false}, {sameStates, "@<x2ax+x1", "ax2", sameStates, true}, {"t", "@<x2ax+x1", "ax2", sameStates, false}, {"t", "@<x2ax+x1", "ax2", "=xX", true}, {sameStates, "ax+x1", "ax+x2", sameStates, false}, {"=x+X1", "ax+x1", "ax+x2", "=xX", true}, {"|=x+X1&=x0=X0", "ax+x1", "ax+x2", "=xX", false},
		// The empty relation and that of all pairs, in both places.
		{"f", "s", "s", "f", true}, {"f", "/ax0ax1", "ax2", "f", true}, {"t", "/ax0ax1", "ax2", "t", true}, {"t", "s", "s", "f", false}, {"f", "s", "s", "t", true}, {"t", "~f", "s", "f", true}, {"t", "s", "~f", "f", true}, {"t", "@ts", "@ts", "f", true}, {"t", "~=x1", "s", "f", false}, {"!=x1", "~=x1", "s", "f", true}, {"!=X1", "~=x1", "s", "f", false}, {"!=X1", "s", "~=x1", "f", true},
		{sameStates, "/ax0ax1", "/ax0ax1", "=xX", false}, {sameStates, "/ax0~f", "/@tsax0", sameStates, true},
	}
	for _, c := range cases {
		wantTruth(t, "PairHolds of "+c.pre+", "+c.p+", "+c.q+", "+c.post, impl.PairHolds(modelRelOf(c.pre), c.p, c.q, modelRelOf(c.post)), c.want)
	}
}

func TestCounterPair(t *testing.T) {
	t.Parallel()
	cases := []struct{ pre, p, q, post, want string }{
		{sameStates, "ax+x1", "s", "<Xx", "200 200 000 200"}, {sameStates, "s", "ax+x1", "<xX", "200 200 200 000"}, {"t", "s", "s", "f", "000 000 000 000"}, {"t", "s", "s", sameStates, "000 100 000 100"}, {"=xX", "s", "s", sameStates, "000 010 000 010"}, {"=yY", "s", "s", "|=xXf", "000 100 000 100"},
		{"<Xx", "s", "s", "<xX", "100 000 100 000"}, {"!=x0", "s", "s", "!=X2", "100 200 100 200"},
		// So does the first pair of final states.
		{"t", "/ax2ax1", "/az1az2", "f", "000 000 100 001"}, {"t", "/ax2ax0", "/ax1ax0", "=xX", "000 000 000 100"}, {"t", "/ax0ax2", "/ax0ax1", "!<Xx", "000 000 200 000"}, {"t", "/ay0az1", "/ax0ax1", "|=y1<Xx", "000 000 000 000"}, {"=x2", "/ax0ax1", "/ax0ax1", "!&=x1=X0", "200 000 100 000"}, {"=x2", "/ax0ax1", "/ax0ax1", "!|&=x0=X1&=x1=X0", "200 000 000 100"},
		{"t", "@!=x2/ax1ax2", "@<x2/ax0ax+x1", "f", "000 000 200 200"}, {"t", "~=x1", "~=y2", "f", "100 020 100 020"}, {"t", "@=x0s", "@<y2s", "|=X0=x1", "200 120 200 120"}, {"=xX", "/s~f", "/@tsax+x1", "=xX", "000 000 000 100"},
		// There is none.
		{sameStates, "s", "s", sameStates, ""}, {"f", "s", "s", "f", ""}, {"t", "s", "s", "t", ""}, {"t", "~f", "s", "f", ""}, {"t", "s", "@ts", "f", ""}, {"=x0", "~=x1", "s", "f", ""}, {sameStates, "@<x2ax+x1", "ax2", sameStates, ""}, {"=x+X1", "ax+x1", "ax+x2", "=xX", ""},
	}
	for _, c := range cases {
		var want modelCounterPair
		if list := strings.Fields(c.want); len(list) == 4 {
			want = modelCounterPair{stateOf(list[0]), stateOf(list[1]), stateOf(list[2]), stateOf(list[3]), true}
		}
		wantCounterPair(t, modelRelOf(c.pre), c.p, c.q, modelRelOf(c.post), want)
	}
	// The first pair goes by the first state, and then by the second one.
	for _, c := range [][4]string{{"000", "222", "100", "000"}, {"200", "000", "010", "000"}, {"220", "222", "001", "000"}, {"010", "001", "010", "101"}, {"010", "200", "010", "010"}} {
		pre := pairsText([2]string{c[2], c[3]}, [2]string{c[0], c[1]})
		want := modelCounterPair{stateOf(c[0]), stateOf(c[1]), stateOf(c[0]), stateOf(c[1]), true}
		wantCounterPair(t, pre, "s", "s", noPairs, want)
		// Of both, only the second one is a counterexample.
		want = modelCounterPair{stateOf(c[2]), stateOf(c[3]), stateOf(c[2]), stateOf(c[3]), true}
		wantCounterPair(t, pre, "s", "s", pairsText([2]string{c[0], c[1]}), want)
	}
}

// From each pair of states alone, and outside of each pair of final states.
func TestCounterPairsInTheOrderOfBytes(t *testing.T) {
	t.Parallel()
	states := allStates()
	p, q := ";/ax0/ax1ax2/ay0/ay1ay2", ";/ay0/ay1ay2/az0/az1az2"
	for k := 0; k < 729; k += 2 {
		i, j := k/27, k%27
		wantCounterPair(t, singlePair(i, j), "s", "s", noPairs, modelCounterPair{states[i], states[j], states[i], states[j], true})
		wantCounterPair(t, strings.Repeat("0", k)+everyPair[k:], "s", "s", noPairs, modelCounterPair{states[i], states[j], states[i], states[j], true})
		// The last pair of states comes to 81 pairs.
		last := singlePair(26, 26)
		wantCounterPair(t, last, p, q, everyPair[:k]+noPairs[k:], duoOf(p, q).counter(last, everyPair[:k]+noPairs[k:]))
	}
}

func TestMatchFree(t *testing.T) {
	t.Parallel()
	cases := []struct{ p, q, post, want string }{
		{"s", "s", "=xY", "=xY"}, {"s", "s", "f", "f"}, {"s", "s", "t", "t"}, {"ax+x1", "ax+x2", "=xX", "=x+X1"},
		// The second program chooses what matches.
		{"s", "/ax0ax1", "=xX", "<x2"}, {"s", "/ax0/ax1ax2", "=xX", "t"}, {"s", "/sax+x1", "=xX", "|=xX=x+X1"},
		// Each choice of the first program has to have a match.
		{"/ax0ax1", "s", "=xX", "f"}, {"/ax0ax1", "s", "!<Xx", "!=X0"}, {"/ax0ax1", "/ax1/ax0ax2", "=xX", "t"}, {"/ax1/ax0ax2", "/ax0ax1", "=xX", "f"}, {"/ax0ax1", "/ax0ax1", "=xX", "t"}, {"/ax0ax1", "/ax1ax2", "=xX", "f"}, {"/ax0ax1", "/ax1ax2", "<xX", "t"}, {"/ax0ax1", "?=y0/ax0ax1ax1", "=xX", "=Y0"}, {"/s~=y0", "/sax0", "=xX", "|=xX=x0"}, {"?=y0/ax0ax1ax0", "ax0", "=xX", "!=y0"}, {"/s/ax+x1ax+x2", "/s~f", "!=xX", "f"},
		{";/ax0ax1/ay0ay1", ";/ay0ay1/ax0ax1", "&=xX=yY", "t"}, {";/ax0ax1ayx", ";/ax0ax1/ay0ay1", "&=xX=yY", "t"}, {";/ax0ax1/ay0ay1", ";/ax0ax1ayx", "&=xX=yY", "f"},
		// The first program does not end: nothing has to be matched. The second
		// one does not: nothing can be.
		{"~f", "s", "f", "t"}, {"@ts", "s", "f", "t"}, {"~f", "@ts", "f", "t"}, {"s", "~f", "t", "f"}, {"s", "@ts", "t", "f"}, {"/s~f", "@ts", "t", "f"}, {"~=x0", "~f", "t", "!=x0"}, {"~=x0", "~=x0", "t", "|!=x0=X0"}, {"s", "~=x0", "t", "=X0"}, {"@=x0s", "~=y1", "t", "|=x0=Y1"}, {"/s~f", "/@tss", "=xX", "=xX"}, {"@<x2/sax+x1", "@<x2ax+x1", "=xX", "t"},
	}
	for _, c := range cases {
		got, ok := impl.MatchFree(c.p, c.q, modelRelOf(c.post))
		wantText(t, "MatchFree of "+c.p+", "+c.q+", "+c.post, got, ok, modelRelOf(c.want), true)
		want := modelRelOf(c.want)
		wantTruth(t, "MatchHolds of MatchFree of "+c.p+", "+c.q+", "+c.post, impl.MatchHolds(want, c.p, c.q, modelRelOf(c.post)), true)
		wantTruth(t, "MatchHolds of no pairs, "+c.p+", "+c.q+", "+c.post, impl.MatchHolds(noPairs, c.p, c.q, modelRelOf(c.post)), true)
		if more := withOneMore(want, len(c.p)); more != want {
			wantTruth(t, "MatchHolds of more than MatchFree of "+c.p+", "+c.q+", "+c.post, impl.MatchHolds(more, c.p, c.q, modelRelOf(c.post)), false)
			wantTruth(t, "MatchHolds of all pairs, "+c.p+", "+c.q+", "+c.post, impl.MatchHolds(everyPair, c.p, c.q, modelRelOf(c.post)), false)
		}
	}
}

func TestEndTogether(t *testing.T) {
	t.Parallel()
	cases := []struct {
		pre, p, q string
		want      bool
	}{
		// Both surely end.
		{"t", "s", "s", true}, {"t", "@<x2ax+x1", "ax2", true}, {"t", "/ax0ax1", "@=y1ay0", true}, {"=x1", "@=x0s", "s", true}, {"=X1", "s", "~=x1", true},
		// One of them never ends, or is blocked, and the other one surely ends.
		{sameStates, "@=x1s", "s", false}, {sameStates, "s", "@=x1s", false}, {"t", "~f", "s", false}, {"t", "s", "~f", false}, {"t", "@ts", "ax1", false}, {"t", "ax1", "@ts", false}, {sameStates, "~=x1", "s", false}, {sameStates, "s", "~=x1", false}, {"!=x1", "@=x1s", "s", true}, {"=x1", "@=x1s", "s", false}, {"&=x1&=X0=y2", "@=x1s", "s", false},
		// Neither surely ends, each for a reason of its own.
		{"t", "~f", "~f", true}, {"t", "@ts", "@ts", true}, {"t", "~f", "@ts", true}, {"t", "@ts", "~f", true}, {"=x1", "@=x1s", "~f", true}, {"t", "/s~f", "/@tss", true}, {"t", "@t/s~f", "/ax1~f", true},
		// One may end, and does not surely.
		{"t", "/s~f", "s", false}, {"t", "s", "/@tss", false}, {"t", "/s@ts", "~f", true}, {"t", "@<x2/sax+x1", "s", false}, {"=x2", "@<x2/sax+x1", "s", true}, {"=x2", "@<x2/sax+x1", "~f", false}, {"<x2", "@<x2/sax+x1", "~f", true},
		{sameStates, "@=x1s", "~!=x1", true}, {"=xX", "@=x1s", "~!=x1", true}, {"t", "@=x1s", "~!=x1", false}, {"=xX", "@=x1s", "~!=y1", false}, {"=xY", "@=x1s", "~!=y1", true}, {"=yX", "@=x1s", "~!=y1", false}, {"=yX", "@=y1s", "~!=x1", true}, {"<xX", "~=x0", "~=x0", false}, {"!<xX", "~=x2", "~!=x0", false},
		// Of no pairs, anything is true.
		{"f", "@=x1s", "s", true}, {"f", "~f", "s", true}, {"f", "s", "@ts", true}, {"f", "s", "s", true},
	}
	for _, c := range cases {
		wantTruth(t, "EndTogether of "+c.pre+", "+c.p+", "+c.q, impl.EndTogether(modelRelOf(c.pre), c.p, c.q), c.want)
	}
}

func TestProductProves(t *testing.T) {
	t.Parallel()
	cases := []struct {
		pre, w, post string
		want         bool
	}{
		{sameStates, ";@<x2ax+x1aX2", sameStates, true}, {sameStates, "ax+X1", sameStates, false}, {sameStates, "axX", sameStates, true}, {"&=yY=zZ", "axX", sameStates, true}, {"=yY", "axX", sameStates, false}, {"t", "~=xX", "=xX", true}, {"t", "~=xX", "f", false}, {"<xX", "~=xX", "f", true}, {"t", "/axXaXx", "=xX", true}, {"t", "/axXaX1", "=xX", false}, {"=X1", "/axXax1", "=xX", true},
		{"f", "s", "f", true}, {"t", "s", "t", true}, {"t", "s", "f", false}, {"f", "s", "t", true}, {"t", "~f", "f", true}, {"t", "@ts", "f", true}, {"=x1", "@=x1s", "f", true}, {"t", "@=x1s", "f", false}, {"t", "@!=xX/ax+x1aX+X1", "=xX", true}, {"=xX", "@<xXaX+X1", sameStates, false},
		{"=xX", "@|<x2<X2?<x2?<X2;ax+x1aX+X1ax+x1aX+X1", "=xX", true}, {"t", "@|<x2<X2?<x2?<X2;ax+x1aX+X1ax+x1aX+X1", "=xX", true}, {"t", "@|<x2<X2?<x2?<X2;ax+x1aX+X1ax+x1aX+X1", "=x1", false},
	}
	for _, c := range cases {
		wantTruth(t, "ProductProves of "+c.pre+", "+c.w+", "+c.post, impl.ProductProves(modelRelOf(c.pre), c.w, modelRelOf(c.post)), c.want)
	}
	// Wide programs of up to 1000 bytes.
	for n, w := range fullWidePrograms() {
		post := []string{noPairs, equalPairs, everyPair}[n%3]
		free := freeModel(w)(post)
		wantTruth(t, "ProductProves of WideFree of "+w, impl.ProductProves(free, w, post), true)
		if more := withOneMore(free, n); more != free {
			wantTruth(t, "ProductProves of more than WideFree of "+w, impl.ProductProves(more, w, post), false)
		}
	}
}

func TestPairsOfProgramsAgainstTheModel(t *testing.T) {
	t.Parallel()
	rels := someRels()
	for n, both := range somePairsOfPrograms(2) {
		pre, post := rels[n*7%len(rels)], rels[(n*11+n/9+3)%len(rels)]
		checkDuo(t, both[0], both[1], pre, post)
	}
}

func TestChoicesAgainstTheModel(t *testing.T) {
	t.Parallel()
	posts := []string{equalPairs, modelRelOf("=xX"), modelRelOf("<xX"), modelRelOf("!=xX"), modelRelOf("|=x0=X2")}
	for n, p := range choosingPrograms() {
		for k, q := range choosingPrograms() {
			checkDuo(t, p, q, equalPairs, posts[(n+k)%len(posts)])
		}
	}
}

func TestPairsOfLongProgramsAgainstTheModel(t *testing.T) {
	t.Parallel()
	full, rels := fullPrograms(), someRels()
	for n, p := range full {
		q := full[(n+5)%len(full)]
		pre, post := rels[(n*7+4)%len(rels)], rels[(n*17+2)%len(rels)]
		if n%2 == 0 {
			q = programsOfEveryKind()[n]
		}
		checkDuo(t, p, q, pre, post)
	}
}

// Of two programs of which one has no final states, or neither, all pairs are in
// PairFree, and in MatchFree if it is the first one.
func TestProgramsWithoutFinalStates(t *testing.T) {
	t.Parallel()
	rels := []string{noPairs, everyPair, equalPairs, modelRelOf("<xY")}
	others := []string{"s", "/ax0ax1", "@<x2/ax+x1ax0", "/s~f"}
	for n, p := range endlessPrograms() {
		for k, q := range []string{"~f", "@ts", others[n%4], others[(n+1)%4]} {
			pre, post := rels[(n+k)%4], rels[(n+k/2)%3]
			checkEndless(t, p, q, pre, post)
			checkEndless(t, q, p, pre, post)
			got, ok := impl.MatchFree(p, q, post)
			wantText(t, "MatchFree of "+p+" and "+q, got, ok, everyPair, true)
			wantTruth(t, "MatchHolds of "+p+" and "+q, impl.MatchHolds(pre, p, q, post), true)
		}
		// What surely ends has no match in what does not end.
		for _, q := range []string{"s", "/ax0ax1", "@<x2ax+x1"} {
			got, ok := impl.MatchFree(q, p, everyPair)
			wantText(t, "MatchFree of "+q+" and "+p, got, ok, noPairs, true)
			wantTruth(t, "MatchHolds of "+q+" and "+p, impl.MatchHolds(equalPairs, q, p, everyPair), false)
			wantTruth(t, "MatchHolds of no pairs, "+q+" and "+p, impl.MatchHolds(noPairs, q, p, everyPair), true)
		}
	}
}

// checkEndless checks what is told of two programs that do not both have final
// states.
func checkEndless(t *testing.T, p, q, pre, post string) {
	t.Helper()
	both := p + " and " + q
	got, ok := impl.PairFree(p, q, post)
	wantText(t, "PairFree of "+both, got, ok, everyPair, true)
	got, ok = impl.PairPost(pre, p, q)
	wantText(t, "PairPost of "+both, got, ok, noPairs, true)
	wantTruth(t, "PairHolds of "+both, impl.PairHolds(pre, p, q, post), true)
	wantTruth(t, "PairHolds of all pairs and none, "+both, impl.PairHolds(everyPair, p, q, noPairs), true)
	wantCounterPair(t, pre, p, q, post, modelCounterPair{})
	wantCounterPair(t, everyPair, p, q, noPairs, modelCounterPair{})
	product, _ := impl.SequentialProduct(p, q)
	wantTruth(t, "ProductProves of "+product, impl.ProductProves(everyPair, product, noPairs), true)
	wantTruth(t, "EndTogether of "+both, impl.EndTogether(pre, p, q), modelWithin(pre, duoOf(p, q).together()))
	got, ok = impl.JoinedFree(p, q, "s", "ax1", post)
	wantText(t, "JoinedFree of "+both+" first", got, ok, everyPair, true)
	got, ok = impl.JoinedFree("s", "ax1", p, q, post)
	wantText(t, "JoinedFree of "+both+" then", got, ok, everyPair, true)
}

// Promise 8: a triple holds exactly if any product of both programs proves it.
func TestTriplesHoldIfProductsProveThem(t *testing.T) {
	t.Parallel()
	seed := uint32(8)
	rels := someRels()
	proved, refuted, long := 0, 0, 0
	for n, both := range append(somePairsOfPrograms(5), longProducts()...) {
		p, q := both[0], both[1]
		post := rels[(n*11+n/7)%len(rels)]
		free := duoOf(p, q).free(post)
		pres := []string{free, withOneMore(free, n), rels[(n*5+1)%len(rels)]}
		for k, product := range fewProducts(t, &seed, p, q) {
			pre := pres[(n+k)%len(pres)]
			want := impl.PairHolds(pre, p, q, post)
			wantTruth(t, "ProductProves of the product "+product+" of "+p+" and "+q+", "+pre+", "+post, impl.ProductProves(pre, product, post), want)
			wantTruth(t, "PairHolds of "+p+" and "+q+", "+pre+", "+post, want, modelWithin(pre, free))
			if want {
				proved++
			} else {
				refuted++
			}
			if len(product) > 200 {
				long++
			}
		}
	}
	if proved < 200 || refuted < 200 || long < 50 {
		t.Errorf("only %d products prove a triple, %d do not, and %d are long", proved, refuted, long)
	}
}

// fewProducts returns the sequential product, that in lockstep, and some by plans,
// each of them once.
func fewProducts(t *testing.T, seed *uint32, p, q string) []string {
	t.Helper()
	list := productsOf(t, seed, p, q)
	if len(list) > 5 {
		list = append(list[:2], list[2+len(p)%2:][:3]...)
	}
	slices.Sort(list)
	return slices.Compact(list)
}

// longProducts returns programs the products of which are longer than a program
// may be, and differ from each other.
func longProducts() [][2]string {
	loops := ";@<x2;ax+x1ay+yx;?=y0az+z1?<z2ay1ax0@!=y2/ay+y1;ay0az+x1"
	ifs := "?=xy?<yzaz0;saz+x1?=z0/ax1ax0@<x1ax+x1"
	steps := ";ax+x1;@<y2ay+y1;?=z0az1az0;@=x0ax2ay+xz"
	programs := []string{";" + loops + steps, ";" + ifs + ";" + steps + loops, ";;" + steps + loops + ifs, ";" + steps + ";~<yz" + loops}
	var list [][2]string
	for _, p := range programs {
		for _, q := range programs {
			list = append(list, [2]string{p, q})
		}
	}
	return list
}

// Promise 8, with all products of the same two programs.
func TestAllProductsProveTheSame(t *testing.T) {
	t.Parallel()
	seed := uint32(88)
	cases := []struct{ p, q, pre, post string }{
		{";ax1@<y2ay+y1", ";@<y1ay+y1ax1", "t", "=xX"}, {";ax1@<y2ay+y1", ";@<y1ay+y1ax1", sameStates, sameStates}, {";ax1@<y2ay+y1", ";@<y2ay+y1ax1", sameStates, sameStates}, {"@<x2ax+x1", "@!=x2ax+x1", sameStates, sameStates}, {"@<x2ax+x1", "@<x1ax+x1", sameStates, sameStates}, {"?=x0ay1ay2", "?!=x0ay2ay1", "=xX", "=yY"}, {"?=x0ay1ay2", "?=x0ay2ay1", "=xX", "=yY"},
		{";/ax0ax1ayx", ";/ay0ay1axy", "t", "&=xy=XY"}, {";/ax0ax1ayx", ";/ay0ay1axy", "t", "=xX"}, {";~=x0@=y0s", ";@=y1saz0", "|!=x0=y0", "f"}, {";~=x0@=y0s", ";@=y1saz0", "!=x0", "t"}, {"@tax+x1", "/sax0", "t", "f"}, {"/sax0", "@tax+x1", "t", "f"}, {"/sax0", "/sax0", "t", "f"}, {"s", "s", "f", "f"}, {"s", "s", "t", "t"},
	}
	for _, c := range cases {
		pre, post := modelRelOf(c.pre), modelRelOf(c.post)
		want := modelWithin(pre, duoOf(c.p, c.q).free(post))
		wantTruth(t, "PairHolds of "+c.pre+", "+c.p+", "+c.q+", "+c.post, impl.PairHolds(pre, c.p, c.q, post), want)
		for _, product := range productsOf(t, &seed, c.p, c.q) {
			wantTruth(t, "ProductProves of "+c.pre+", "+product+", "+c.post, impl.ProductProves(pre, product, post), want)
		}
	}
}

// What PairHolds and CounterPair tell is what PairFree and PairPost tell.
func TestTriplesAreToldAlike(t *testing.T) {
	t.Parallel()
	rels := someRels()
	for n, both := range somePairsOfPrograms(7) {
		p, q := both[0], both[1]
		pre, post := rels[n*3%len(rels)], rels[(n*17+5)%len(rels)]
		free, _ := impl.PairFree(p, q, post)
		reached, _ := impl.PairPost(pre, p, q)
		holds := impl.PairHolds(pre, p, q, post)
		s, to, s2, t2, found := impl.CounterPair(pre, p, q, post)
		if impl.RelWithin(pre, free) != holds || impl.RelWithin(reached, post) != holds || found == holds {
			t.Errorf("PairFree, PairPost, PairHolds and CounterPair of %q, %q, %q, %q do not agree", pre, p, q, post)
		}
		left, _ := impl.RunsFrom(p, s)
		right, _ := impl.RunsFrom(q, to)
		if found && (!impl.HasPair(pre, s, to) || impl.HasPair(post, s2, t2) || !impl.HasState(left.Finals, s2) || !impl.HasState(right.Finals, t2)) {
			t.Errorf("CounterPair(%q, %q, %q, %q) = %v, %v, %v, %v", pre, p, q, post, s, to, s2, t2)
		}
		// Of plain programs, which have no choices, only the ends of both may match.
		matched, _ := impl.MatchFree(p, q, post)
		ending, _ := impl.PairFree(p, q, noPairs)
		if all, _ := impl.OrRel(matched, ending); impl.IsPlain(p) && impl.IsPlain(q) && all != free {
			t.Errorf("MatchFree of %q, %q and %q is %q, and PairFree %q", p, q, post, matched, free)
		}
	}
}

func TestJoinedFree(t *testing.T) {
	t.Parallel()
	cases := []struct{ p, q, p2, q2, post, want string }{
		{"s", "s", "s", "s", "=xY", "=xY"}, {"ax+x1", "s", "ax+x1", "s", "=xX", "=+x2X"}, {"ax+x1", "s", "s", "ax+x1", "=xX", "=xX"}, {"axy", "s", "ayz", "s", "&=xX=yY", "&=yX=zY"}, {"s", "axy", "s", "ayz", "&=xX=yY", "&=xY=yZ"}, {"ax1", "ax2", "ay+x1", "ayx", "=yY", "t"}, {"ax1", "ax2", "ayx", "ayx", "=yY", "f"},
		{"~=x0", "s", "s", "s", "f", "!=x0"}, {"s", "s", "~=x0", "s", "f", "!=x0"}, {"ax+x1", "s", "~=x0", "s", "f", "!=x2"}, {"s", "@=x1s", "s", "ax1", "f", "=X1"}, {"/ax0ax1", "s", "s", "/sax0", "!<Xx", "f"}, {"/ax0ax1", "ax2", "s", "ax1", "!<Xx", "t"},
	}
	for _, c := range cases {
		got, ok := impl.JoinedFree(c.p, c.q, c.p2, c.q2, modelRelOf(c.post))
		wantText(t, "JoinedFree of "+c.p+", "+c.q+", "+c.p2+", "+c.q2+", "+c.post, got, ok, modelRelOf(c.want), true)
	}
}

// JoinedFree is PairFree of both sequences.
func TestJoinedFreeIsThatOfSequences(t *testing.T) {
	t.Parallel()
	rels := someRels()
	list := somePairsOfPrograms(6)
	joined := 0
	for n, first := range list {
		second, post := list[(n*7+1)%len(list)], rels[(n*13+2)%len(rels)]
		want := duoOf(first[0], first[1]).free(duoOf(second[0], second[1]).free(post))
		got, ok := impl.JoinedFree(first[0], first[1], second[0], second[1], post)
		wantText(t, "JoinedFree of "+strings.Join(append(first[:], second[:]...), ", "), got, ok, want, true)
		p, isShort := impl.JoinPrograms(first[0], second[0])
		q, areShort := impl.JoinPrograms(first[1], second[1])
		if isShort && areShort {
			got, ok = impl.PairFree(p, q, post)
			wantText(t, "PairFree of "+p+" and "+q, got, ok, want, true)
			joined++
		}
	}
	if joined < 150 {
		t.Errorf("only %d sequences are short enough", joined)
	}
	// Sequences may be longer than a program.
	full := fullPrograms()
	for n := range 4 {
		p, q := full[n*3], full[n*3+2]
		want := duoOf(p, "s").free(duoOf(q, "ax+x1").free(equalPairs))
		got, ok := impl.JoinedFree(p, "s", q, "ax+x1", equalPairs)
		wantText(t, "JoinedFree of long programs", got, ok, want, true)
	}
}

// checkNoPairs checks every result that the chapter states if an argument is not
// valid.
func checkNoPairs(t *testing.T, pre, p, q, post string) {
	t.Helper()
	wantTruth(t, "PairHolds of what is not valid", impl.PairHolds(pre, p, q, post), false)
	wantTruth(t, "MatchHolds of what is not valid", impl.MatchHolds(pre, p, q, post), false)
	wantCounterPair(t, pre, p, q, post, modelCounterPair{})
}

// checkNoPairsOf does so for the functions that have but one relation.
func checkNoPairsOf(t *testing.T, p, q, rel string) {
	t.Helper()
	got, ok := impl.PairFree(p, q, rel)
	wantText(t, "PairFree of what is not valid", got, ok, "", false)
	got, ok = impl.MatchFree(p, q, rel)
	wantText(t, "MatchFree of what is not valid", got, ok, "", false)
	got, ok = impl.PairPost(rel, p, q)
	wantText(t, "PairPost of what is not valid", got, ok, "", false)
	wantTruth(t, "EndTogether of what is not valid", impl.EndTogether(rel, p, q), false)
	for _, other := range []string{"s", "~f"} {
		got, ok = impl.JoinedFree(p, q, other, "s", rel)
		wantText(t, "JoinedFree of what is not valid", got, ok, "", false)
		got, ok = impl.JoinedFree("s", other, p, q, rel)
		wantText(t, "JoinedFree of what is not valid", got, ok, "", false)
	}
	checkNoPairs(t, rel, p, q, rel)
	checkNoPairs(t, noPairs, p, q, rel)
	checkNoPairs(t, rel, p, q, everyPair)
}

// onlyWidePrograms returns wide programs that are no programs.
func onlyWidePrograms() []string {
	list := []string{"axX", "aX1", "~=xX", "@<X2s", "?=xYss", ";ax1aX1", "/saZ0", ";@ts~=X1", "~" + strings.Repeat("!", 199) + "t", strings.Repeat("/s", 100) + "s"}
	return append(list, fullWidePrograms()[:3]...)
}

func TestPairsOfWhatIsNoProgram(t *testing.T) {
	t.Parallel()
	for _, w := range onlyWidePrograms() {
		if !modelWideProgram(w) {
			t.Errorf("%q should be a wide program", w)
		}
	}
	for _, bad := range append(textsThatAreNoPrograms(), onlyWidePrograms()...) {
		// Programs without final states, and empty relations, change nothing.
		for _, other := range []string{"s", "~f"} {
			checkNoPairsOf(t, bad, other, noPairs)
			checkNoPairsOf(t, other, bad, noPairs)
		}
		checkNoPairsOf(t, bad, bad, everyPair)
	}
}

func TestPairsOfWhatIsNoRelation(t *testing.T) {
	t.Parallel()
	for _, bad := range append(brokenRels(), "s", "ax1", "=xX", equalPairs[1:]) {
		checkNoPairsOf(t, "s", "s", bad)
		checkNoPairsOf(t, "~f", "@ts", bad)
		checkNoPairs(t, bad, "s", "ax1", everyPair)
		checkNoPairs(t, noPairs, "s", "ax1", bad)
		checkNoPairs(t, bad, "ax1", "~f", bad)
		for _, w := range []string{"s", "axX", "~f", "@ts"} {
			wantTruth(t, "ProductProves before what is no relation", impl.ProductProves(noPairs, w, bad), false)
			wantTruth(t, "ProductProves after what is no relation", impl.ProductProves(bad, w, everyPair), false)
			wantTruth(t, "ProductProves between what are no relations", impl.ProductProves(bad, w, bad), false)
		}
	}
	for _, w := range textsThatAreNoWidePrograms() {
		wantTruth(t, "ProductProves of what is no wide program", impl.ProductProves(noPairs, w, everyPair), false)
		wantTruth(t, "ProductProves of what is no wide program", impl.ProductProves(everyPair, w, everyPair), false)
	}
}

// The given example.
func TestExampleOfPairs(t *testing.T) {
	p, q := "@<x2ax+x1", "ax2"
	wantTruth(t, "PairHolds of the example", impl.PairHolds(equalPairs, p, q, equalPairs), true)
	wantTruth(t, "EndTogether of the example", impl.EndTogether(equalPairs, p, q), true)
	wantCounterPair(t, equalPairs, p, q, equalPairs, modelCounterPair{})
}
