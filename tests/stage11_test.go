package tests

import (
	"strings"
	"testing"

	"loop.example/productprograms/impl"
)

func TestFoldTest(t *testing.T) {
	t.Parallel()
	folds := map[string]string{
		"t": "t", "f": "f", "=11": "t", "=12": "f", "=00": "t", "=02": "f", "<12": "t", "<21": "f", "<11": "f", "<01": "t", "<20": "f",
		// Both expressions become digits only by folding, one does, or none.
		"=+121": "f", "=+120": "t", "=0+12": "t", "=+11-01": "t", "=*22+12": "f", "<+12*22": "t", "<*22+12": "f", "<+11-01": "f", "<-+1222": "t", "<-+1212": "f", "=+++1110-22": "t", "=++12+21*0-12": "t", "<*+112+22": "f",
		"=+x1+12": "=+x10", "=+12y": "=0y", "<z-01": "<z2", "<+1x+12": "<+1x0", "=-+12x*22": "=-0x1",
		// Values that are known, but of expressions with variables.
		"=xx": "=xx", "<xx": "<xx", "<x0": "<x0", "=*0x0": "=*0x0", "=-xx0": "=-xx0", "<2y": "<2y", "=+x0x": "=+x0x",
		"!t": "f", "!f": "t", "!!t": "t", "!!f": "f", "!!!t": "f", "!=11": "f", "!=12": "t", "!<+12*22": "f", "!=x1": "!=x1", "!=x+12": "!=x0", "!!=x1": "!!=x1", "!!!<xy": "!!!<xy", "!!=0+12": "t",
		"&tt": "t", "&tf": "f", "&ft": "f", "&ff": "f", "&t=x1": "=x1", "&=x1t": "=x1", "&f=x1": "f", "&=x1f": "f", "&=x1<yz": "&=x1<yz", "&=x1=x1": "&=x1=x1",
		"|tt": "t", "|tf": "t", "|ft": "t", "|ff": "f", "|t=x1": "t", "|=x1t": "t", "|f=x1": "=x1", "|=x1f": "=x1", "|=x1<yz": "|=x1<yz", "|=x1=x1": "|=x1=x1",
		// Operands that are true, or not, only by folding.
		"&=11=x1": "=x1", "&=x1!f": "=x1", "&!t=x1": "f", "&=x1<21": "f", "&!=x1=12": "f", "&=+12x=+120": "=0x", "|!t=x1": "=x1", "|=x1<21": "=x1", "|=12=x+11": "=x2", "|!f<xy": "t", "|<xy=+120": "t", "|f!t": "f", "&!f!f": "t", "&<+120=x1": "f", "|<0+11=x1": "t",
		"!&t=x1": "!=x1", "!|f=x1": "!=x1", "!&f=x1": "t", "!|t=x1": "f", "!&=x1<yz": "!&=x1<yz", "&!t!t": "f", "&|f=x1&t=y2": "&=x1=y2", "|&f=x1&=y2t": "=y2", "|&f=x1&=y2f": "f", "&|t=x1|=y2t": "t", "&&t=x1|f=y2": "&=x1=y2", "|&=x1=+120&=y2<xz": "|=x1&=y2<xz",
		// No operand is left out because it is the other one, or its negation.
		"&=x1!=x1": "&=x1!=x1", "|=x1!=x1": "|=x1!=x1", "!!<xz": "!!<xz",
		"&&t&tt&tt": "t", "||f|ff|f<zx": "<zx", "&&&t=x1t&tt": "=x1",
	}
	for test, want := range folds {
		got, ok := impl.FoldTest(test)
		wantText(t, "FoldTest of "+test, got, ok, want, true)
	}
}

// allShortTests returns tests of each operator within each other.
func allShortTests() []string {
	small := append([]string{"t", "f"}, compounds("=<", []string{"1", "+12", "x", "+x1"}, []string{"2", "-12", "y", "*2z"})...)
	list := append([]string{}, small...)
	for _, test := range small {
		list = append(list, "!"+test, "!!"+test)
	}
	some := []string{"t", "f", "=11", "<21", "=x1", "!t", "!=y2", "&t<xy", "|f=+12z", "&=x1=y1", "|!f=z1"}
	both := compounds("&|", some, some)
	list = append(list, both...)
	for n, test := range both {
		list = append(list, "!"+test, "&"+test+both[n*7%len(both)], "|"+test+both[n*11%len(both)])
	}
	return append(list, someTests()...)
}

func TestFoldTestAgainstTheModel(t *testing.T) {
	t.Parallel()
	for _, test := range allShortTests() {
		want, _ := modelFold(test)
		got, ok := impl.FoldTest(test)
		wantText(t, "FoldTest of "+test, got, ok, want, true)
		again, ok := impl.FoldTest(got)
		wantText(t, "FoldTest of what is folded", again, ok, got, true)
		if before, after := modelPredOf(test), modelPredOf(got); before != after {
			t.Errorf("%q is true in %s, and folded, %q, in %s", test, before, got, after)
		}
		if (len(got) > 1) == (impl.TestVars(got) == "") || len(got) > len(test) {
			t.Errorf("FoldTest of %q = %q", test, got)
		}
	}
}

func TestFoldTestAtTheLimit(t *testing.T) {
	t.Parallel()
	cases := map[string]string{
		strings.Repeat("!", 199) + "t":                            "f",
		strings.Repeat("!", 198) + "t":                            "t",
		strings.Repeat("!", 197) + "=xy":                          strings.Repeat("!", 197) + "=xy",
		"=x" + longSum(197):                                       "=x" + longSum(197),
		"!=x" + longSum(197):                                      "!=x" + longSum(197),
		"!!=x" + longSum(197):                                     "",
		"=+xy" + longSum(197):                                     "",
		"!=1" + strings.ReplaceAll(longSum(197), "x", "1"):        "t",
		strings.Repeat("&", 99) + strings.Repeat("t", 100):        "t",
		strings.Repeat("&", 100) + strings.Repeat("t", 101):       "",
		strings.Repeat("|f", 98) + "!=12":                         "t",
		strings.Repeat("&t", 98) + "=xy":                          "=xy",
		strings.Repeat("&t", 98) + "!=xy":                         "!=xy",
		strings.Repeat("&t", 98) + "!!=xy":                        "",
		strings.Repeat("|", 99) + strings.Repeat("f", 99) + "t":   "t",
		strings.Repeat("|", 100) + strings.Repeat("f", 100) + "t": "",
	}
	for test, want := range cases {
		got, ok := impl.FoldTest(test)
		wantText(t, "FoldTest of "+test, got, ok, want, want != "")
	}
}

func TestFoldTestOfWhatIsNone(t *testing.T) {
	t.Parallel()
	list := append(brokenTests(), "=xY", "<X1", "&t=zZ", "!=YY", "~=12", "?tss", "tt", "t ", "!", "&t", "=1", "<+12", "a=12")
	for _, test := range list {
		got, ok := impl.FoldTest(test)
		wantText(t, "FoldTest of what is no test", got, ok, "", false)
	}
}

func TestFoldProgram(t *testing.T) {
	t.Parallel()
	folds := map[string]string{
		"s": "s", "ax+12": "ax0", "ax1": "ax1", "ax+x1": "ax+x1", "axx": "axx", "ay-+12y": "ay-0y", "az**22+11": "az2", "ax+xy": "ax+xy",
		"?=11sax1": "s", "?=12sax1": "ax1", "?=x1sax1": "?=x1sax1", "?tss": "s", "?fss": "s", "?=x1ss": "?=x1ss", "?!!=x1sax+11": "?!!=x1sax2", "?&t=x+12sax1": "?=x0sax1",
		// The parts fold, too, that which is left and that which is not.
		"?tax+12~f": "ax0", "?fax+12~=12": "~f", "?=+120?fsay*22ax1": "ay1", "?<21s?!fax+11s": "ax2", "?t?t?tax+12sss": "ax0", "?=x1?tax+12s@fs": "?=x1ax0s", "?&tf@ts@=11ax-12": "@tax2", "?|=x1tax+22s": "ax1", "?!=y+12?f~t~!t@<21s": "?!=y0~fs", "?t;ax+12~t@ts": ";ax0s", "?f;ax+12~t/s~t": "/ss",
		"@fs": "s", "@<10s": "s", "@ts": "@ts", "@<01s": "@ts", "@!!fax+11": "s", "@=x1ax+11": "@=x1ax2", "@&t=x+12@fs": "@=x0s", "@f@ts": "s", "@t@fs": "@ts", "@=11@=12s": "@ts", "@t?tax+12s": "@tax0", "@<x2@f~f": "@<x2s", "@&=x1fs": "s", "@|!=x1tax1": "@tax1",
		"~t": "s", "~f": "~f", "~!f": "s", "~!t": "~f", "~=11": "s", "~=12": "~f", "~=x+11": "~=x2", "~|=x1!f": "s", "~&f=x1": "~f", "~&t<xy": "~<xy", "~!<xy": "~!<xy",
		// `;` and `/` only have their parts folded.
		";~tax+12": ";sax0", "/~fs": "/~fs", "/~t~=12": "/s~f", ";ss": ";ss", "/ss": "/ss", ";?tsax1@fs": ";ss", ";@fs@fs": ";ss", "/?fsax+12?tax+12s": "/ax0ax0", ";;~t~t~t": ";;sss", ";s;@fs?t~fs": ";s;s~f", "/axx/ay+12@t~t": "/axx/ay0@ts",
	}
	for p, want := range folds {
		wantTransform(t, "FoldProgram", impl.FoldProgram, p, want, true)
	}
}

func TestDropSkips(t *testing.T) {
	t.Parallel()
	cases := map[string]string{
		"s": "s", "axx": "s", "ayy": "s", "azz": "s", "ayx": "ayx", "axy": "axy", "ax1": "ax1", "ax+xx": "ax+xx", "ax+x0": "ax+x0", "ax*1x": "ax*1x", "az-zz": "az-zz", "~t": "~t", "~f": "~f", "@fs": "@fs", "@ts": "@ts", "@=x1axx": "@=x1s",
		";sax1": "ax1", ";ax1s": "ax1", ";ss": "s", ";axxayy": "s", ";axxay1": "ay1", ";ax1azz": "ax1", ";ax1ax1": ";ax1ax1", ";ax1ay2": ";ax1ay2", ";s~f": "~f", ";@tss": "@ts", ";axx;sayx": "ayx", ";;sss": "s", ";s;s;s;s;ss": "s", ";;;;sssax1s": "ax1", ";;ax1say1": ";ax1ay1", ";;ax1ay1s": ";ax1ay1", ";;sax1;ay1s": ";ax1ay1", ";~ts": "~t",
		"?=x1ay1ay1": "ay1", "?=x1ss": "s", "?tax1ax2": "?tax1ax2", "?fss": "s", "?=x1say1": "?=x1say1", "?=x1ay1az1": "?=x1ay1az1", "?=x1~f~f": "~f", "?=x1@ts@ts": "@ts",
		"/ss": "s", "/ax1ax1": "ax1", "/ax1ax2": "/ax1ax2", "/~f~f": "~f", "/s~f": "/s~f", "/~fs": "/~fs", "/s;ss": "s", "/;ax1ay1;ax1ay1": ";ax1ay1",
		// Parts that are equal only behind the rewriting of their own parts.
		"?=x1;sax1ax1": "ax1", "?=x1ax1;ax1s": "ax1", "?=x1axxs": "s", "?=x1axxayy": "s", "?<xy?=x1ss;ss": "s", "?=x1?=y1ax1ax1ax1": "ax1", "/;sax1;ax1s": "ax1", "/s/ss": "s", "//sss": "s", "/?tss@fs": "/s@fs", "/;sax1;s;sax1": "ax1", "//ax1;sax1/;ax1sax1": "ax1", "?=x1@=y1;ss@=y1s": "@=y1s", "/@tazz@ts": "@ts", ";?=x1s;ssax1": "ax1", "@=x1;ss": "@=x1s", "@=x1/ax1;sax1": "@=x1ax1",
		// They do the same, but their texts differ.
		"?=x1ax0ax-xx": "?=x1ax0ax-xx", "/;ax1ay1;ay1ax1": "/;ax1ay1;ay1ax1", "/;;ax1ay1az1;ax1;ay1az1": "/;;ax1ay1az1;ax1;ay1az1", "/~ts": "/~ts",
	}
	for p, want := range cases {
		wantTransform(t, "DropSkips", impl.DropSkips, p, want, true)
		wantRewritten(t, p, "skips", want)
	}
}

func TestFlattenProgram(t *testing.T) {
	t.Parallel()
	cases := map[string]string{
		"s": "s", "ax1": "ax1", "~f": "~f", "@ts": "@ts", "?=x1sax1": "?=x1sax1", "/ss": "/ss", ";ss": ";ss", ";ax1ay1": ";ax1ay1",
		";;ax1ay1az1": ";ax1;ay1az1", ";ax1;ay1az1": ";ax1;ay1az1", ";;ax1ay1;az1ax2": ";ax1;ay1;az1ax2", ";;;ssss": ";s;s;ss", ";s;;sss": ";s;s;ss", ";;;ax1ay1az1~f": ";ax1;ay1;az1~f", ";;ax1;ay1az1~f": ";ax1;ay1;az1~f", ";ax1;;ay1az1~f": ";ax1;ay1;az1~f", ";ax1;ay1;az1~f": ";ax1;ay1;az1~f",
		";;;;ax1ay1az1ax2ay2": ";ax1;ay1;az1;ax2ay2", ";;;ax1ay1;az1ax2ay2": ";ax1;ay1;az1;ax2ay2", ";;ax1ay1;;az1ax2ay2": ";ax1;ay1;az1;ax2ay2", ";;;ax1;ay1;az1ax2ay2az2": ";ax1;ay1;az1;ax2;ay2az2", ";;;ax1ay1;az1ax2;;ay2az2s": ";ax1;ay1;az1;ax2;ay2;az2s",
		// Within other statements, each sequence is one of its own.
		"@t;;sss": "@t;s;ss", "?=x1;;sss;;ax1ss": "?=x1;s;ss;ax1;ss", "/;;ax1ay1s@=y1;;sss": "/;ax1;ay1s@=y1;s;ss", ";/;;ax1ay1ssaz1": ";/;ax1;ay1ssaz1", ";;@t;;ssss~f": ";@t;s;ss;s~f", ";;?t;;sssax1ay1s": ";?t;s;ssax1;ay1s", ";;s/;;ax1ay1az1ss": ";s;/;ax1;ay1az1ss", ";s/;;ax1ay1az1s": ";s/;ax1;ay1az1s",
	}
	for p, want := range cases {
		wantTransform(t, "FlattenProgram", impl.FlattenProgram, p, want, true)
		wantRewritten(t, p, "flat", want)
	}
	// All 200 bytes.
	left, right := strings.Repeat(";", 99)+strings.Repeat("s", 99)+"~t", strings.Repeat(";s", 99)+"~t"
	for _, p := range []string{left, right, strings.Repeat(";", 50) + strings.Repeat(";s", 49) + strings.Repeat("s", 50) + "~t"} {
		wantTransform(t, "FlattenProgram", impl.FlattenProgram, p, right, true)
	}
}

// wantRewritten expects a program of RewriteAll.
func wantRewritten(t *testing.T, p, name, want string) {
	t.Helper()
	wantTransform(t, "RewriteAll by "+name, rewriteBy(name), p, want, true)
}

func TestUnrollLoop(t *testing.T) {
	t.Parallel()
	cases := map[string]string{
		"@<x2ax+x1": "?<x2;ax+x1@<x2ax+x1s", "@ts": "?t;s@tss", "@f~f": "?f;~f@f~fs", "@=y0;ax1ay1": "?=y0;;ax1ay1@=y0;ax1ay1s", "@!&t=x1/s~f": "?!&t=x1;/s~f@!&t=x1/s~fs",
		// The loop in its body stays.
		"@<x2@<y2ay+y1": "?<x2;@<y2ay+y1@<x2@<y2ay+y1s", "@t@ts": "?t;@ts@t@tss",
	}
	for p, want := range cases {
		wantTransform(t, "UnrollLoop", impl.UnrollLoop, p, want, true)
	}
}

func TestSwapBranches(t *testing.T) {
	t.Parallel()
	cases := map[string]string{
		"?=x1sax1": "?!=x1ax1s", "?tss": "?!tss", "?fax1ax2": "?!fax2ax1", "?!=x1sax1": "?!!=x1ax1s", "?&=x1<yz~f@ts": "?!&=x1<yz@ts~f", "?=x1;ax1ay1/s~f": "?!=x1/s~f;ax1ay1",
		// Those in its parts stay.
		"?=x1?=y1sax1?<z1ay1s": "?!=x1?<z1ay1s?=y1sax1",
	}
	for p, want := range cases {
		wantTransform(t, "SwapBranches", impl.SwapBranches, p, want, true)
	}
}

func TestPushAfter(t *testing.T) {
	t.Parallel()
	cases := map[string]string{
		";?=x1ay1saz1": "?=x1;ay1az1;saz1", ";?tsss": "?t;ss;ss", ";?=x1sax1;ay1az1": "?=x1;s;ay1az1;ax1;ay1az1", ";?!=y0~f@tsay1": "?!=y0;~fay1;@tsay1", ";?&=x1<yz;ax1ay1/s~f@=x1s": "?&=x1<yz;;ax1ay1@=x1s;/s~f@=x1s",
		// What follows is an if, or is so once more, and an if in the parts stays.
		";?=x1sax1?=y1say1": "?=x1;s?=y1say1;ax1?=y1say1", ";?=x1sax1;?=y1say1az1": "?=x1;s;?=y1say1az1;ax1;?=y1say1az1", ";?=x1?=y1sax1ax2az1": "?=x1;?=y1sax1az1;ax2az1", ";?=x1;?=y1sax1ay2ax2az1": "?=x1;;?=y1sax1ay2az1;ax2az1",
	}
	for p, want := range cases {
		wantTransform(t, "PushAfter", impl.PushAfter, p, want, true)
	}
}

func TestMergeSets(t *testing.T) {
	t.Parallel()
	cases := map[string]string{
		";ax+x1ax*xx": "ax*+x1+x1", ";ax1ax2": "ax2", ";ax1axx": "ax1", ";axxaxx": "axx", ";axxax+x1": "ax+x1", ";ay+y1ay-2y": "ay-2+y1", ";az*xyaz+zz": "az+*xy*xy",
		// The first expression stands several times in the second one, or not at all.
		";ax+x1ax0": "ax0", ";ax+xyax+yz": "ax+yz", ";ax+xyay+yz": "", ";ax+xyax+x+x+xx": "ax++xy++xy++xy+xy", ";ax2ax**xxx": "ax**222", ";axyax+x*yx": "ax+y*yy", ";ay*yyay-y-yz": "ay-*yy-*yyz", ";ax+xxax+xx": "ax++xx+xx",
	}
	for p, want := range cases {
		wantTransform(t, "MergeSets", impl.MergeSets, p, want, want != "")
	}
	// All expressions of at most three letters.
	exprs := shortExprs()
	for n, first := range exprs {
		for _, v := range letters() {
			for k := range 5 {
				second := exprs[(n*7+k*23)%len(exprs)]
				want := "a" + v + strings.ReplaceAll(second, v, first)
				wantTransform(t, "MergeSets", impl.MergeSets, ";a"+v+first+"a"+v+second, want, true)
			}
		}
	}
}

// Statements of each kind to which nothing applies, also if it would apply to their
// parts.
func TestStatementsToWhichNothingApplies(t *testing.T) {
	t.Parallel()
	within := []string{"@=x1ax+x1", "?=x1say1", ";?=x1say1az1", ";ax+x1ax*xx"}
	others := []string{"s", "ax1", "axx", "ay+y1", "~t", "~=x1", ";ss", ";ax1ay1", ";sax1", ";ax1s", ";ax1~t", ";~tax1", ";axyayx", ";ay1ax1", ";az1ax1", "/ss", "/ax1ax1"}
	for _, p := range within {
		others = append(others, ";s"+p, ";ax1"+p, ";~t"+p, ";@fs"+p, ";ay1"+p, ";/ss"+p, "/"+p+p, "/s"+p, ";/s"+p+"ax1", ";;"+p+"ss")
	}
	functions := []struct {
		call             func(string) (string, bool)
		name, only, more string
	}{
		{impl.UnrollLoop, "UnrollLoop", "@", "?=x1ss ?t@tss ;@tss ;@=x1ss " + strings.Join(within[1:], " ")},
		{impl.SwapBranches, "SwapBranches", "?", "@ts @=x1?=x1ss ;?tsss " + within[0] + " " + within[2] + " " + within[3]},
		{impl.PushAfter, "PushAfter", "", "?=x1ss @ts @=x1;?tsss ?=x1;?tsss;?tsss ;s?=x1ss ;;?tssss ;@tss ;/sss ;~=x1s " + within[0] + " " + within[1] + " " + within[3]},
		{impl.MergeSets, "MergeSets", "", "?=x1ss ?tax1ax1 @ts @=x1;ax1ax2 /ax1ax2 ;;ax1ax2ax0 ;ax0;ax1ax2 ;ax1?tax1ax1 ;@fax1ax1 ;ax1/ax1ax1 " + strings.Join(within[:3], " ")},
	}
	for _, f := range functions {
		for _, p := range append(strings.Fields(f.more), others...) {
			got, ok := f.call(p)
			wantText(t, f.name+" of "+p, got, ok, "", false)
			if !impl.ProgramValid(p) {
				t.Errorf("%q should be a program", p)
			}
		}
	}
}

func TestRewriteAll(t *testing.T) {
	t.Parallel()
	cases := []struct{ name, p, want string }{
		// Several times, and within each other, each with the new parts.
		{"unroll", ";@=x1s@=y1ax1", ";?=x1;s@=x1ss?=y1;ax1@=y1ax1s"}, {"unroll", "@=x1@=y1s", "?=x1;?=y1;s@=y1ss@=x1?=y1;s@=y1sss"}, {"unroll", "?=x1@ts/@fss", "?=x1?t;s@tss/?f;s@fsss"}, {"unroll", "@t;@fss", "?t;;?f;s@fsss@t;?f;s@fssss"},
		{"swap", "?=x1?=y1sax1s", "?!=x1s?!=y1ax1s"}, {"swap", ";?=x1sax1?=y1ay1s", ";?!=x1ax1s?!=y1say1"}, {"swap", "?=x1?=y1sax1?<z1ay1s", "?!=x1?!<z1say1?!=y1ax1s"}, {"swap", "@t?fs?tax1s", "@t?!f?!tsax1s"}, {"swap", "/?!=x1ss~f", "/?!!=x1ss~f"},
		{"push", ";?=x1ay1saz1", "?=x1;ay1az1;saz1"}, {"push", ";;?=x1sax1ay1;?=y1say2az1", "?=x1;;say1?=y1;saz1;ay2az1;;ax1ay1?=y1;saz1;ay2az1"}, {"push", ";;?=x1sax1ay1az1", "?=x1;;say1az1;;ax1ay1az1"}, {"push", ";?=x1;?=y1sax1ay1saz1", "?=x1;?=y1;say1;ax1ay1az1;saz1"}, {"push", "/;?tsss@t;?fax1say1", "/?t;ss;ss@t?f;ax1ay1;say1"}, {"push", ";s;?tsax1ay1", ";s?t;say1;ax1ay1"},
		// What is put in place is an if behind an if, and stays.
		{"push", ";?=x1?=y1sax1ay2az1", "?=x1;?=y1sax1az1;ay2az1"}, {"push", ";?=x1;?=y1sssay1az1", "?=x1;?=y1;ss;ssaz1;ay1az1"}, {"push", ";;?tsss;?fsss", "?t;;ss?f;ss;ss;;ss?f;ss;ss"},
		{"sets", ";ax+x1ax*xx", "ax*+x1+x1"}, {"sets", ";;ax+x1ax*xxax-x2", "ax-*+x1+x12"}, {"sets", ";ax+x1;ax*xxax-x2", "ax-*+x1+x12"}, {"sets", ";;ax+x1ax*xx;ax-x2ax+xx", "ax+-*+x1+x12-*+x1+x12"}, {"sets", ";;ax1ay1ay2", ";;ax1ay1ay2"}, {"sets", ";ax1;ax2ay1", ";ax1;ax2ay1"}, {"sets", "?=x1;ax1ax+x1;ay1ay+yy", "?=x1ax+11ay+11"}, {"sets", ";;ax1ax2;ay1ay2", ";ax2ay2"}, {"sets", "@<x2;ax+x1ax+x1", "@<x2ax++x11"}, {"sets", "/;ax1axx;az2az+zz", "/ax1az+22"},
		{"skips", ";axx;sayx", "ayx"}, {"flat", ";;;ssss", ";s;s;ss"},
		// It applies only together with the new parts, or no longer.
		{"push", ";;?tsssax1", "?t;;ssax1;;ssax1"}, {"sets", ";?=x1ax1ax2;ax1ax2", ";?=x1ax1ax2ax2"}, {"sets", ";;ax1ax2?tss", ";ax2?tss"}, {"skips", ";axxs", "s"}, {"skips", "?=x1;ss/ss", "s"},
		// What is put in place would be one more to rewrite.
		{"unroll", "@ts", "?t;s@tss"}, {"swap", "?tsax1", "?!tax1s"}, {"sets", ";;ax1axxaxx", "ax1"}, {"skips", ";saxx", "s"},
	}
	for _, c := range cases {
		wantRewritten(t, c.p, c.name, c.want)
	}
	// Nothing applies, anywhere.
	for _, p := range []string{"s", "ax1", "~=x1", "/s~f", ";ax1ay+y2", "/;~tax1~f"} {
		for _, name := range rewritingNames() {
			wantRewritten(t, p, name, p)
		}
	}
}

func TestNamesOfNoRewriting(t *testing.T) {
	t.Parallel()
	for _, name := range namesOfNoRewriting() {
		for _, p := range []string{"s", "axx", ";;sss", "@ts", "?tsax1", ";?tsss", ";ax1ax2", "ax+12", "", "x"} {
			got, ok := impl.RewriteAll(p, name)
			wantText(t, "RewriteAll of "+p+" by what is no name", got, ok, "", false)
		}
	}
}

func TestTidyProgram(t *testing.T) {
	t.Parallel()
	cases := []struct {
		p, want string
		rounds  int
	}{
		{"s", "s", 0}, {"ax1", "ax1", 0}, {"/s~f", "/s~f", 0}, {";ax1;ay1az1", ";ax1;ay1az1", 0}, {"@=x1ax+x1", "@=x1ax+x1", 0}, {"@ts", "@ts", 0},
		{";;sax+12;?t;sssay*1y", ";ax0ay*1y", 1}, {";~tax1", "ax1", 1}, {";;ax1ay1az1", ";ax1;ay1az1", 1}, {"?=x1;sax+12ax0", "ax0", 1}, {";@fax1?=11;;sss~f", "s", 1}, {"ax-2+11", "ax0", 1}, {";ax1axx", "ax1", 1}, {"?=x1ax*22ax1", "ax1", 1}, {"/~t@fs", "s", 1},
		// Parts are equal only when they are flat, and sequences flat only when these are one.
		{"/;;ax1ay1az1;ax1;ay1az1", ";ax1;ay1az1", 2}, {"?=x1;;ax1ay1az1;ax1;ay1az1", ";ax1;ay1az1", 2}, {";/;;ax1ay1az1;ax1;ay1az1~f", ";ax1;ay1;az1~f", 2}, {"@=x1?=y1;;ax1ay1~f;ax1;ay1~f", "@=x1;ax1;ay1~f", 2},
		{"?=x1;/;;ax1ay1az1;ax1;ay1az1az2;ax1;ay1;az1az2", ";ax1;ay1;az1az2", 3}, {"/;ax1;ay1;az1~f;?=x1;;ax1ay1az1;ax1;ay1az1~f", ";ax1;ay1;az1~f", 3},
		{"/;;/;;;ax1ay1az1ay2;ax1;ay1;az1ay2~f@=x1s;ax1;ay1;az1;ay2;~f@=x1s", ";ax1;ay1;az1;ay2;~f@=x1s", 3},
		{";/?=x1;/;;ax1ay1az1;ax1;ay1az1az2;ax1;ay1;az1az2;ax1;ay1;az1az2ax2", ";ax1;ay1;az1;az2ax2", 3}, {"/;/?=x1;/;;ax1ay1az1;ax1;ay1az1az2;ax1;ay1;az1az2;ax1;ay1;az1az2ax2;ax1;ay1;az1;az2ax2", ";ax1;ay1;az1;az2ax2", 4},
	}
	for _, c := range cases {
		wantTransform(t, "TidyProgram", impl.TidyProgram, c.p, c.want, true)
		if rounds := tidyRounds(c.p); len(rounds)-1 != c.rounds {
			t.Errorf("%q should need %d rounds, and needs %q", c.p, c.rounds, rounds)
		}
	}
}

// wantLong expects a result of as many bytes, or none if these are more than 200.
func wantLong(t *testing.T, name string, call func(string) (string, bool), p, want string, length int) {
	t.Helper()
	if len(want) != length || !impl.ProgramValid(p) {
		t.Fatalf("%s of %q should have %d bytes, and has %d", name, p, length, len(want))
	}
	if length > 200 {
		want = ""
	}
	wantTransform(t, name, call, p, want, length <= 200)
}

// Results of just MaxText bytes, and of one more. An unrolled loop has an even number
// of bytes, and a statement a an odd one.
func TestTransformsOfExactlyTheLimit(t *testing.T) {
	t.Parallel()
	for _, length := range []int{98, 99} {
		test := "=x" + longSum(95)
		for _, loop := range [][2]string{{test, programOf(length - len(test))}, {strings.Repeat("!", length-4) + "<x2", "s"}, {"t", programOf(length - 1)}} {
			p := "@" + loop[0] + loop[1]
			wantLong(t, "UnrollLoop", impl.UnrollLoop, p, "?"+loop[0]+";"+loop[1]+p+"s", 2*length+4)
		}
	}
	for _, length := range []int{200, 201} {
		for _, parts := range [][2]string{{"ax1", programOf(length - 8)}, {programOf(length - 6), "s"}, {programOf(90), programOf(length - 95)}} {
			wantLong(t, "SwapBranches", impl.SwapBranches, "?=x1"+parts[0]+parts[1], "?!=x1"+parts[1]+parts[0], length)
		}
		test := strings.Repeat("!", length-5) + "t"
		wantLong(t, "SwapBranches", impl.SwapBranches, "?"+test+"ss", "?!"+test+"ss", length)
		for _, parts := range [][3]string{{programOf(17), programOf(length - 183), programOf(80)}, {programOf(length - 9), "s", "s"}, {"s", "ax1", programOf((length - 9) / 2)}} {
			first, second, after := parts[0], parts[1], parts[2]
			want := "?=x1;" + first + after + ";" + second + after
			wantLong(t, "PushAfter", impl.PushAfter, ";?=x1"+first+second+after, want, len(want))
		}
	}
	for _, length := range []int{199, 201} {
		// Four times 41 bytes, and the rest of the second expression.
		first, second := longSum(41), strings.Repeat("+", (length-163)/2)+"xxxx"+strings.Repeat("y", (length-169)/2)
		wantLong(t, "MergeSets", impl.MergeSets, ";ax"+first+"ax"+second, "ax"+strings.ReplaceAll(second, "x", first), length)
	}
}

func TestRewriteAllOfExactlyTheLimit(t *testing.T) {
	t.Parallel()
	cases := []struct{ name, p, want string }{
		{"unroll", "/@<x2s#", "/?<x2;s@<x2ss#"}, {"unroll", ";#@<x2s", ";#?<x2;s@<x2ss"}, {"unroll", "/;@f@tss#", "/;?f;?t;s@tss@f?t;s@tssss#"},
		{"swap", "/?=x1s~f;?tax1s#", "/?!=x1~fs;?!tsax1#"}, {"swap", "?tax1?f#s", "?!t?!fs#ax1"}, {"swap", "@t?=x1s#", "@t?!=x1#s"},
		{"push", "/;?<x1sax1s#", "/?<x1;ss;ax1s#"}, {"push", ";?<x1#ax1s", "?<x1;#s;ax1s"}, {"push", ";s;?<x1s#s", ";s?<x1;ss;#s"},
		{"sets", "/;ax++xyzax++xxx#", "/ax++++xyz++xyz++xyz#"}, {"sets", ";#;ax++xyzax++xxx", ";#ax++++xyz++xyz++xyz"}, {"sets", "@t/#;;ax++xyzax++xxxs", "@t/#;ax++++xyz++xyz++xyzs"},
	}
	for _, c := range cases {
		for _, length := range []int{200, 201} {
			within := programOf(length + 1 - len(c.want))
			p, want := strings.ReplaceAll(c.p, "#", within), strings.ReplaceAll(c.want, "#", within)
			wantLong(t, "RewriteAll by "+c.name, rewriteBy(c.name), p, want, length)
		}
	}
}

// What is as long as may be, and stays so.
func TestTransformsThatKeepTheLength(t *testing.T) {
	t.Parallel()
	keeping := []func(string) (string, bool){impl.FoldProgram, impl.DropSkips, impl.FlattenProgram, impl.TidyProgram}
	for _, name := range rewritingNames() {
		keeping = append(keeping, rewriteBy(name))
	}
	for _, p := range []string{"~=x" + longSum(197), strings.Repeat(";ay1", 49) + "/~fs", strings.Repeat("/s", 99) + "~f"} {
		for _, call := range keeping {
			wantLong(t, "a transformation", call, p, p, 200)
		}
	}
	left, right := strings.Repeat(";", 49)+strings.Repeat("az1", 49)+"/~fs", strings.Repeat(";az1", 49)+"/~fs"
	wantLong(t, "FlattenProgram", impl.FlattenProgram, left, right, 200)
	wantLong(t, "TidyProgram", impl.TidyProgram, left, right, 200)
	wantLong(t, "RewriteAll by flat", rewriteBy("flat"), left, right, 200)
}

// widened returns two assignments that become one of as many bytes, an odd number:
// the first expression of 63 bytes stands in the second one 15 times.
func widened(v string, bytes int) string {
	first := strings.ReplaceAll(longSum(63), "x", v)
	rest := bytes - 2 - 15*62
	second := strings.Repeat("+", rest/2) + strings.Repeat(v, 15) + strings.Repeat("1", rest/2-14)
	return ";a" + v + first + "a" + v + second
}

// wantWidened checks that two assignments become one of as many bytes.
func wantWidened(t *testing.T, within string, bytes int) {
	t.Helper()
	if got, ok := modelRewrite(within, "sets"); !ok || len(got) != bytes || !impl.ProgramValid(within) {
		t.Fatalf("%q should become %d bytes, and becomes %d", within, bytes, len(got))
	}
}

// Programs within that become longer than MaxText and end up no longer, and those that
// become longer than MaxWide by their own rewriting: 999 bytes are just not too many, as
// an assignment has an odd number of bytes.
func TestProgramsWithinThatBecomeWide(t *testing.T) {
	t.Parallel()
	for bytes := 963; bytes <= 1031; bytes += 2 {
		for _, v := range letters() {
			wide := widened(v, bytes)
			wantWidened(t, wide, bytes)
			within, merged := ";"+wide+"a"+v+"0", "a"+v+"0"
			for _, around := range []string{"#", "@=x1#", ";s#", ";#/s~f", "?=y1#az1", "/@fs;#s"} {
				p, want := strings.ReplaceAll(around, "#", within), strings.ReplaceAll(around, "#", merged)
				if bytes > 1000 {
					want = ""
				}
				wantTransform(t, "RewriteAll by sets", rewriteBy("sets"), p, want, bytes <= 1000)
			}
			// What stays a wide one is no program.
			for _, p := range []string{wide, "/s" + wide, "@t" + wide, ";" + wide + "s"} {
				got, ok := impl.RewriteAll(p, "sets")
				wantText(t, "RewriteAll by sets of what becomes wide", got, ok, "", false)
			}
			got, ok := impl.MergeSets(wide)
			wantText(t, "MergeSets of what becomes wide", got, ok, "", false)
		}
	}
	// Of just about MaxText bytes, and several, each on its own.
	for _, length := range []int{197, 199, 201, 203} {
		second := strings.Repeat("+", (length-163)/2) + "xxxx" + strings.Repeat("y", (length-169)/2)
		wantRewritten(t, ";;ax"+longSum(41)+"ax"+second+"ax1", "sets", "ax1")
	}
	for k := 3; k <= 9; k++ {
		within := ";;ax" + longSum(41) + "ax" + longSum(4*k-3) + "ax0"
		for _, around := range []string{"/##", "?=x1##", ";#ay1", ";ay1#"} {
			wantRewritten(t, strings.ReplaceAll(around, "#", within), "sets", strings.ReplaceAll(around, "#", "ax0"))
		}
	}
}

// A program within that becomes just wide enough, and is rewritten again with what is
// around it: what that becomes counts, and not how long both parts are together.
func TestRewritingsOfWhatHasBecomeWide(t *testing.T) {
	t.Parallel()
	cases := []struct {
		around string
		more   int
	}{{";;#axxax0", 0}, {";;axx#ax0", 0}, {";;#ax2ax0", 0}, {";;;#axxaxxax0", 0}, {";;#ax+x1ax0", 2}, {";;ax+x1#ax0", 2 * 15 * 32}, {";;#;axxax+x1ax0", 2}, {";;;#axxax+x1ax0", 2}, {";;#ax+1+x1ax0", 4}, {";;#ax+xyax0", 2}, {";;#ax2;axxax0", 0}}
	for bytes := 991; bytes <= 1003; bytes += 2 {
		for _, c := range cases {
			within := widened("x", bytes)
			wantWidened(t, within, bytes)
			fits := bytes+c.more <= 1000
			want := map[bool]string{true: "ax0", false: ""}[fits]
			wantTransform(t, "RewriteAll by sets", rewriteBy("sets"), strings.Replace(c.around, "#", within, 1), want, fits)
		}
	}
	// The example of E and F: 997 bytes, and 3 bytes behind it.
	first := strings.Repeat("+", 9) + strings.Repeat("y", 10)
	second := strings.Repeat("+", 83) + strings.Repeat("x", 46) + strings.Repeat("1", 38)
	wantWidened(t, ";ax"+first+"ax"+second, 997)
	p := ";;ax" + first + "ax" + second + "ax0"
	for around, want := range map[string]string{"#": "ax0", "/#s": "/ax0s", "/s#": "/sax0", "@t#": "@tax0", ";#s": ";ax0s", "?f#s": "?fax0s", ";#ay1": ";ax0ay1"} {
		wantRewritten(t, strings.ReplaceAll(around, "#", p), "sets", want)
	}
}

// Both parts become wide ones, each of which fits, and what they are put together to
// does so, too, or does not.
func TestPartsThatBecomeWideTogether(t *testing.T) {
	t.Parallel()
	part := func(v, by string, times int) string {
		second := strings.Repeat("+", 29) + strings.Repeat(v, times) + strings.Repeat("1", 30-times)
		return ";a" + v + strings.ReplaceAll(longSum(31), "x", by) + "a" + v + second
	}
	for times := 1; times <= 30; times++ {
		bytes := 61 + 30*times
		for by, fits := range map[string]bool{"y": true, "x": false} {
			left, right := part("x", "y", times), part("x", by, times)
			wantWidened(t, left, bytes)
			wantWidened(t, right, bytes)
			// With by in it, the second one takes the first one in as often as this.
			all := bytes
			if !fits {
				all += 16 * times * (bytes - 3)
			}
			p := ";;" + left + right + "ax0"
			want := map[bool]string{true: "ax0", false: ""}[all <= 1000]
			wantTransform(t, "RewriteAll by sets", rewriteBy("sets"), p, want, all <= 1000)
			// Of another variable, they stay two, and only the shortest ones fit.
			p = ";" + left + part("z", by, times)
			want, ok := modelRewriteAll(p, "sets")
			wantTransform(t, "RewriteAll by sets", rewriteBy("sets"), p, want, ok)
			wantTruth(t, "whether two of "+p+" fit", ok, 1+2*bytes <= 200)
		}
	}
}

// Each one more of these doubles the result.
func TestRewritingsThatDouble(t *testing.T) {
	t.Parallel()
	seen := map[bool]int{}
	for n := 1; n <= 40; n++ {
		for name, p := range map[string]string{
			"unroll": strings.Repeat("@<x2", n) + "ax+x1", "push": strings.Repeat(";?tss", n) + "s", "sets": strings.Repeat(";", n) + strings.Repeat("ax+xx", n+1), "swap": strings.Repeat("?=x1s", n) + "s",
		} {
			if len(p) > 200 {
				continue
			}
			want, ok := modelRewriteAll(p, name)
			wantTransform(t, "RewriteAll by "+name, rewriteBy(name), p, want, ok)
			seen[ok]++
		}
	}
	if seen[true] < 20 || seen[false] < 20 {
		t.Errorf("%d results fit, and %d do not", seen[true], seen[false])
	}
}

// programsToTransform returns programs of every form.
func programsToTransform() []string {
	list := append(rewritablePrograms(200), fullPrograms()...)
	list = append(list, compounds(";", []string{"ax+x1", "ay-yz", "?=x1saz1"}, []string{"ax*xx", "ay+2y", "az1"})...)
	list = append(list, endlessPrograms()...)
	list = append(list, choosingPrograms()...)
	for n, p := range append(append(movingPrograms(), someLoops()...), somePrograms()...) {
		if n%4 == 0 {
			list = append(list, p)
		}
	}
	return list
}

func TestTransformsAgainstTheModel(t *testing.T) {
	t.Parallel()
	for _, p := range programsToTransform() {
		checkTransforms(t, p)
	}
}

// Promise 11, also of one transformation after the other.
func TestTransformsDoTheSame(t *testing.T) {
	t.Parallel()
	changed := map[string]int{}
	for n, p := range programsToTransform() {
		if len(p) > 120 {
			continue
		}
		last := p
		for k := range 14 {
			f := allTransforms()[(n+k*5)%14]
			if got, ok := f.call(last); ok && got != last {
				changed[f.name]++
				last = got
			}
		}
		if s, kind := impl.FirstDifference(p, last); kind != "none" {
			t.Errorf("%q becomes %q, and from %v they differ in %s", p, last, s, kind)
		}
	}
	for _, f := range allTransforms() {
		if changed[f.name] < 10 {
			t.Errorf("%s changes only %d programs", f.name, changed[f.name])
		}
	}
}

// What is tidy has nothing to fold, to drop, or to flatten.
func TestTidyProgramsStay(t *testing.T) {
	t.Parallel()
	for _, p := range programsToTransform() {
		tidy, ok := impl.TidyProgram(p)
		if !ok || len(tidy) > len(p) {
			t.Errorf("TidyProgram of %q = %q, %v", p, tidy, ok)
		}
		for _, f := range []func(string) (string, bool){impl.FoldProgram, impl.DropSkips, impl.FlattenProgram, impl.TidyProgram} {
			got, ok := f(tidy)
			wantText(t, "a transformation of "+tidy+", which is tidy", got, ok, tidy, true)
		}
	}
}

func TestTransformsOfWhatIsNoProgram(t *testing.T) {
	t.Parallel()
	list := append(textsThatAreNoPrograms(), onlyWidePrograms()...)
	// They would be shorter, or are short of one part.
	list = append(list, strings.Repeat(";s", 100)+"s", "?t"+strings.Repeat(";s", 99)+"s", ";ax"+strings.Repeat("+1", 98)+"1s", "@f"+strings.Repeat("@t", 99)+"s", "ax"+strings.Repeat("+1", 99)+"1", ";;ss", "?tax1", "@<x2", ";?=x1ss", ";ax1ax", ";ax1axX", "?tsss", ";;ssss")
	for _, p := range list {
		checkNoTransforms(t, p)
	}
}

// The given example.
func TestExampleOfTransforms(t *testing.T) {
	wantTransform(t, "TidyProgram", impl.TidyProgram, ";;sax+12;?t;sssay*1y", ";ax0ay*1y", true)
}
