package tests

import (
	"slices"
	"strconv"
	"strings"
	"testing"

	"loop.example/productprograms/impl"
)

func TestProgramsOfEveryForm(t *testing.T) {
	cases := []struct {
		p, shown, head, parts string
		size, depth, loops    int
		reads, writes         string
		plain                 bool
	}{
		{"s", "skip", "", "", 1, 1, 0, "", "", true},
		{"ax1", "x:=1", "x1", "", 1, 1, 0, "", "x", true},
		{"ax+x1", "x:=(x+1)", "x+x1", "", 1, 1, 0, "x", "x", true},
		{"az-y*2x", "z:=(y-(2*x))", "z-y*2x", "", 1, 1, 0, "xy", "z", true},
		{"~t", "assume true", "t", "", 1, 1, 0, "", "", false},
		{"~!<zy", "assume !(z<y)", "!<zy", "", 1, 1, 0, "yz", "", false},
		{";ss", "skip; skip", "", "s s", 3, 2, 0, "", "", true},
		{";;sss", "skip; skip; skip", "", ";ss s", 5, 3, 0, "", "", true},
		{";s;ss", "skip; skip; skip", "", "s ;ss", 5, 3, 0, "", "", true},
		{";azxay1", "z:=x; y:=1", "", "azx ay1", 3, 2, 0, "x", "yz", true},
		{"?=xysay2", "if x=y {skip} else {y:=2}", "=xy", "s ay2", 3, 2, 0, "xy", "y", true},
		{"?tss", "if true {skip} else {skip}", "t", "s s", 3, 2, 0, "", "", true},
		{"?&=z0f;saxyaz2", "if (z=0&false) {skip; x:=y} else {z:=2}", "&=z0f", ";saxy az2", 5, 3, 0, "yz", "xz", true},
		{"@<x2ax+x1", "while x<2 {x:=(x+1)}", "<x2", "ax+x1", 2, 2, 1, "x", "x", true},
		{"@t;ss", "while true {skip; skip}", "t", ";ss", 4, 3, 1, "", "", true},
		{"@t@fs", "while true {while false {skip}}", "t", "@fs", 3, 3, 2, "", "", true},
		{"/ss", "either {skip} or {skip}", "", "s s", 3, 2, 0, "", "", false},
		{"/s~f", "either {skip} or {assume false}", "", "s ~f", 3, 2, 0, "", "", false},
		{";s~t", "skip; assume true", "", "s ~t", 3, 2, 0, "", "", false},
		{";@ts@<z1az2", "while true {skip}; while z<1 {z:=2}", "", "@ts @<z1az2", 5, 3, 2, "z", "z", true},
		{"@=xy/?tss~=zz", "while x=y {either {if true {skip} else {skip}} or {assume z=z}}", "=xy", "/?tss~=zz", 6, 4, 1, "xyz", "", false},
		{";ax1@<y2ay+yx", "x:=1; while y<2 {y:=(y+x)}", "", "ax1 @<y2ay+yx", 4, 3, 1, "xy", "xy", true},
	}
	for _, c := range cases {
		if shown, head := impl.ShowProgram(c.p), impl.HeadOf(c.p); !impl.ProgramValid(c.p) || shown != c.shown || head != c.head {
			t.Errorf("ShowProgram and HeadOf of %q = %q and %q", c.p, shown, head)
		}
		if parts := impl.PartsOf(c.p); !slices.Equal(parts, strings.Fields(c.parts)) {
			t.Errorf("PartsOf(%q) = %q", c.p, parts)
		}
		if size, depth, loops := impl.SizeOf(c.p), impl.DepthOf(c.p), impl.LoopCount(c.p); size != c.size || depth != c.depth || loops != c.loops {
			t.Errorf("SizeOf, DepthOf and LoopCount of %q = %d, %d and %d", c.p, size, depth, loops)
		}
		if reads, writes, plain := impl.ReadsOf(c.p), impl.WritesOf(c.p), impl.IsPlain(c.p); reads != c.reads || writes != c.writes || plain != c.plain {
			t.Errorf("ReadsOf, WritesOf and IsPlain of %q = %q, %q and %v", c.p, reads, writes, plain)
		}
		checkProgram(t, c.p)
	}
}

func TestProgramsAgainstTheModel(t *testing.T) {
	for _, p := range somePrograms() {
		if _, ok := modelOf(p); !ok {
			t.Fatalf("%q should be a program", p)
		}
		checkProgram(t, p)
	}
}

func TestShortTextsOfPrograms(t *testing.T) {
	for a := range 256 {
		letter := string([]byte{byte(a)})
		for _, text := range []string{"", "s", "ss", "t", "ts", "tss", "x1", "y", "sax1"} {
			checkProgram(t, letter+text)
			checkProgram(t, text+letter)
		}
		for b := range 256 {
			pair := string([]byte{byte(a), byte(b)})
			for _, text := range []string{pair, "a" + pair, ";" + pair, "@" + pair} {
				if _, ok := modelOf(text); impl.ProgramValid(text) != ok {
					t.Errorf("ProgramValid(%q) = %v", text, !ok)
				}
			}
		}
	}
	texts := []string{""}
	for range 4 {
		texts = compounds("sa;?@/~tf=!&x1+X ", texts, []string{""})
		for _, text := range texts {
			if _, ok := modelOf(text); impl.ProgramValid(text) != ok {
				t.Errorf("ProgramValid(%q) = %v", text, !ok)
			}
		}
	}
}

func TestTextsThatAreNoPrograms(t *testing.T) {
	for _, p := range brokenPrograms() {
		checkNoProgram(t, p)
	}
	for _, p := range brokenEverywhere() {
		// What is neither an expression nor a test may still be a program.
		if p != "s" {
			checkNoProgram(t, p)
		}
	}
	for _, p := range append(someExprs(), someTests()...) {
		checkNoProgram(t, p)
	}
}

// A text that is cut or has more than a program is none, as no program is the
// beginning of another one; one with a letter less within may be another one.
func TestTextsThatEndTooEarlyOrTooLate(t *testing.T) {
	for _, p := range somePrograms() {
		for i := range p {
			if impl.ProgramValid(p[:i]) {
				t.Errorf("%q, the beginning of %q, is a program", p[:i], p)
			}
		}
		for _, behind := range []string{"s", "t", "x", "1", ";", "ax1", " ", "\x00", "\xff", p} {
			if impl.ProgramValid(p + behind) {
				t.Errorf("%q is a program with %q behind it", p, behind)
			}
		}
		checkNoProgram(t, p[:len(p)-1])
		checkNoProgram(t, p+"s")
	}
	for _, p := range smallPrograms() {
		for i := range p {
			checkProgram(t, p[:i]+p[i+1:])
			checkProgram(t, p[:i]+"s"+p[i:])
			checkProgram(t, p[:i]+"x"+p[i+1:])
			checkProgram(t, p[:i]+"X"+p[i+1:])
		}
	}
}

func TestStatementsWithoutParts(t *testing.T) {
	for _, p := range []string{"s", "ax1", "ayy", "az+x*yz", "~t", "~=xy", "~!&t<z1"} {
		if parts := impl.PartsOf(p); len(parts) != 0 {
			t.Errorf("PartsOf(%q) = %q", p, parts)
		}
		if size, depth, loops := impl.SizeOf(p), impl.DepthOf(p), impl.LoopCount(p); size != 1 || depth != 1 || loops != 0 {
			t.Errorf("SizeOf, DepthOf and LoopCount of %q = %d, %d and %d", p, size, depth, loops)
		}
		if head := impl.HeadOf(p); head != p[1:] {
			t.Errorf("HeadOf(%q) = %q", p, head)
		}
	}
}

// fullPrograms returns programs of exactly 200 bytes, of every form.
func fullPrograms() []string {
	return []string{
		"~" + strings.Repeat("!", 198) + "t",
		"~" + strings.Repeat("!", 196) + "=xy",
		"~=x" + longSum(197),
		"@" + strings.Repeat("!", 197) + "fs",
		"@=y" + longSum(195) + "~t",
		"?" + strings.Repeat("!", 194) + "tsaz2",
		strings.Repeat(";", 99) + strings.Repeat("s", 99) + "~t",
		strings.Repeat(";s", 99) + "~f",
		strings.Repeat("/", 99) + "~t" + strings.Repeat("s", 99),
		strings.Repeat("@t", 99) + "~t",
		strings.Repeat("@=xy", 49) + ";s~t",
		strings.Repeat("?ts", 66) + "~t",
		strings.Repeat("?t", 66) + "~t" + strings.Repeat("s", 66),
		";ax" + longSum(195) + "~t",
		";~tay" + longSum(195),
		"/" + strings.Repeat("@t", 48) + "s" + strings.Repeat(";", 50) + strings.Repeat("s", 50) + "~f",
	}
}

func TestProgramsOfExactlyTheLimit(t *testing.T) {
	for _, p := range fullPrograms() {
		if len(p) != 200 || !impl.ProgramValid(p) {
			t.Fatalf("%q of %d bytes should be a program of 200", p, len(p))
		}
		checkProgram(t, p)
	}
	// A statement a has an odd number of bytes.
	checkProgram(t, "ax"+longSum(197))
	if !impl.ProgramValid("ax" + longSum(197)) {
		t.Error("a statement of 199 bytes is no program")
	}
}

func TestProgramsPastTheLimit(t *testing.T) {
	longer := []string{
		"ax" + longSum(199),
		strings.Repeat(";", 100) + strings.Repeat("s", 101),
		strings.Repeat("/s", 100) + "s",
		strings.Repeat("@t", 100) + "s",
	}
	for _, p := range fullPrograms() {
		// A test that is not what it was is one byte longer.
		for _, test := range []string{"t", "f", "=", "<"} {
			if i := strings.LastIndex(p, test); i >= 0 {
				longer = append(longer, p[:i]+"!"+p[i:])
			}
		}
	}
	for _, p := range longer {
		if _, rest, ok := readModel(p); len(p) != 201 || rest != "" || !ok {
			t.Fatalf("%q of %d bytes should be a statement of 201", p, len(p))
		}
		checkNoProgram(t, p)
		checkNoProgram(t, ";"+p+p)
	}
}

func TestDeepAndWidePrograms(t *testing.T) {
	balanced := "s"
	for range 6 {
		balanced = ";" + balanced + balanced
	}
	branches := "ax1"
	for range 5 {
		branches = "?t" + branches + branches
	}
	cases := []struct {
		p                  string
		size, depth, loops int
	}{
		{strings.Repeat(";", 99) + strings.Repeat("s", 100), 199, 100, 0},
		{strings.Repeat(";s", 99) + "s", 199, 100, 0},
		{strings.Repeat("/", 99) + strings.Repeat("s", 100), 199, 100, 0},
		{strings.Repeat("@t", 99) + "s", 100, 100, 99},
		{strings.Repeat("@t", 99) + "~t", 100, 100, 99},
		{strings.Repeat("?fs", 66) + "s", 133, 67, 0},
		{strings.Repeat("?f", 66) + strings.Repeat("s", 67), 133, 67, 0},
		{balanced, 127, 7, 0},
		{branches, 63, 6, 0},
		{";" + strings.Repeat("@f", 20) + "s" + strings.Repeat("@f", 30) + "s", 53, 32, 50},
		{";" + strings.Repeat("@f", 30) + "s" + strings.Repeat("@f", 20) + "s", 53, 32, 50},
	}
	for _, c := range cases {
		if size, depth, loops := impl.SizeOf(c.p), impl.DepthOf(c.p), impl.LoopCount(c.p); size != c.size || depth != c.depth || loops != c.loops {
			t.Errorf("SizeOf, DepthOf and LoopCount of %q = %d, %d and %d", c.p, size, depth, loops)
		}
		checkProgram(t, c.p)
	}
	left := impl.ShowProgram(strings.Repeat(";", 99) + strings.Repeat("s", 100))
	if want := strings.Repeat("skip; ", 99) + "skip"; left != want {
		t.Errorf("ShowProgram of 100 statements = %q", left)
	}
	loops := impl.ShowProgram(strings.Repeat("@t", 99) + "s")
	if want := strings.Repeat("while true {", 99) + "skip" + strings.Repeat("}", 99); loops != want {
		t.Errorf("ShowProgram of 99 loops = %q", loops)
	}
}

// A variable may be read or written anywhere in a program.
func TestReadsAndWritesOfEveryPlace(t *testing.T) {
	for _, v := range letters() {
		reads := []string{
			"ax" + v, "ay+1" + v, "~=" + v + "1", "~!&t<0" + v, "?=" + v + "1ss", "@<1" + v + "s",
			"?t~=" + v + "2s", "?ts~=0" + v, ";az*" + v + "1s", ";saz*0" + v, "/~=1" + v + "s", "/s~=1" + v, "@t@f~=" + v + v,
		}
		for _, p := range reads {
			if got := impl.ReadsOf(p); got != v {
				t.Errorf("ReadsOf(%q) = %q, want %q", p, got, v)
			}
		}
		writes := []string{
			"a" + v + "1", "a" + v + "+x*yz", ";a" + v + "1s", ";sa" + v + "1", "?=xya" + v + "1s", "?=xysa" + v + "1",
			"@<zya" + v + "1", "/a" + v + "1s", "/sa" + v + "1", "@t@f;~=xya" + v + "z",
		}
		for _, p := range writes {
			if got := impl.WritesOf(p); got != v {
				t.Errorf("WritesOf(%q) = %q, want %q", p, got, v)
			}
		}
	}
	if got := impl.ReadsOf(";az1;ay2ax0"); got != "" {
		t.Errorf("ReadsOf of what only writes = %q", got)
	}
	if got := impl.WritesOf(";az1;ay2ax0"); got != "xyz" {
		t.Errorf("WritesOf of three statements = %q", got)
	}
	if got := impl.ReadsOf("?=zy~=zxs"); got != "xyz" {
		t.Errorf("ReadsOf of two tests = %q", got)
	}
}

func TestJoinPrograms(t *testing.T) {
	for _, p := range smallPrograms() {
		for _, q := range []string{"s", "ax+x1", ";ss", "?=xysay2", "@<y2s", "/s~f", "~!t", p} {
			got, ok := impl.JoinPrograms(p, q)
			wantText(t, "JoinPrograms of "+p+", "+q, got, ok, ";"+p+q, true)
			if parts := impl.PartsOf(got); !slices.Equal(parts, []string{p, q}) {
				t.Errorf("the parts of %q are %q", got, parts)
			}
		}
	}
}

// programOf returns a program of as many bytes.
func programOf(length int) string {
	if length == 1 {
		return "s"
	}
	return "~" + strings.Repeat("!", length-2) + "t"
}

func TestJoinAtTheLimit(t *testing.T) {
	for first := 1; first <= 198; first++ {
		p := programOf(first)
		for second := 199 - first; second <= min(200, 201-first); second++ {
			q := programOf(second)
			want, fits := ";"+p+q, first+second <= 199
			if !fits {
				want = ""
			}
			got, ok := impl.JoinPrograms(p, q)
			wantText(t, "JoinPrograms of "+strconv.Itoa(first)+" and "+strconv.Itoa(second)+" bytes", got, ok, want, fits)
			if fits && (len(got) != 200 || !impl.ProgramValid(got)) {
				t.Errorf("a joined program of %d bytes is no program", len(got))
			}
		}
	}
	for _, p := range fullPrograms() {
		checkJoin(t, p, "s")
		checkJoin(t, "s", p)
		checkJoin(t, p, p)
	}
}

// Each argument has to be a program, also if both together look like two.
func TestJoinOfInvalidPrograms(t *testing.T) {
	pairs := [][2]string{
		{"", ""}, {"", "s"}, {"s", ""}, {"", "ss"}, {"ss", ""}, {";s", "ss"}, {"ax", "1s"}, {"a", "x1s"}, {"?t", "sss"},
		{"@", "tss"}, {"~", "ts"}, {"s@t", "s"}, {"sax", "1"}, {"s;", "ss"}, {";", "ss"}, {"s", "x"}, {"x", "s"}, {"t", "t"},
		{"s", "ax" + longSum(199)}, {"ax" + longSum(199), "s"}, {" s", "s"}, {"s", "s "}, {"s", "aX1"}, {"~=Xx", "s"},
	}
	for _, pair := range pairs {
		got, ok := impl.JoinPrograms(pair[0], pair[1])
		wantText(t, "JoinPrograms of "+pair[0]+", "+pair[1], got, ok, "", false)
	}
}

func TestSwapProgram(t *testing.T) {
	cases := [][4]string{
		{"s", "x", "y", "s"}, {"ax1", "x", "y", "ay1"}, {"ax1", "y", "x", "ay1"}, {"ax1", "y", "z", "ax1"}, {"ax1", "x", "x", "ax1"},
		{"ax+yz", "y", "z", "ax+zy"}, {"ax+yz", "x", "z", "az+yx"}, {"~=xy", "x", "y", "~=yx"}, {"~<z1", "y", "z", "~<y1"},
		{";ax1@<y2ay+yx", "x", "y", ";ay1@<x2ax+xy"}, {";ax1@<y2ay+yx", "z", "z", ";ax1@<y2ay+yx"},
		{"?=xyaz1/ayx~!<xz", "x", "z", "?=zyax1/ayz~!<zx"}, {"@tay0", "x", "z", "@tay0"},
	}
	for _, c := range cases {
		got, ok := impl.SwapProgram(c[0], c[1], c[2])
		wantText(t, "SwapProgram of "+strings.Join(c[:3], ", "), got, ok, c[3], true)
	}
}

func TestSwapOfInvalidLetters(t *testing.T) {
	for _, p := range []string{"s", "ax+y1", ";ax1@<y2ay+yx", "~t", ""} {
		for _, bad := range brokenLetters() {
			for _, pair := range [][2]string{{bad, "x"}, {"x", bad}, {"z", bad}, {bad, bad}} {
				got, ok := impl.SwapProgram(p, pair[0], pair[1])
				wantText(t, "SwapProgram of "+p+", "+pair[0]+", "+pair[1], got, ok, "", false)
			}
		}
	}
}

func TestPartsAreNewMemory(t *testing.T) {
	for _, p := range []string{";sax1", "?=xysay2", "@ts", "/s~f"} {
		parts := impl.PartsOf(p)
		want := slices.Clone(parts)
		for i := range parts {
			parts[i] = "changed"
		}
		_ = append(parts[:0], "other", "other")
		if again := impl.PartsOf(p); !slices.Equal(again, want) {
			t.Errorf("PartsOf(%q) = %q after a change of its result, want %q", p, again, want)
		}
	}
}

// Promise 3, its first half.
func TestProgramIsItsHeadAndItsParts(t *testing.T) {
	for _, p := range append(somePrograms(), fullPrograms()...) {
		parts := impl.PartsOf(p)
		if whole := p[:1] + impl.HeadOf(p) + strings.Join(parts, ""); whole != p {
			t.Fatalf("%q has the head and the parts of %q", p, whole)
		}
		if got := rebuild(p); got != p {
			t.Fatalf("%q is built from heads and parts as %q", p, got)
		}
		if want := map[string]int{";": 2, "?": 2, "@": 1, "/": 2}[p[:1]]; len(parts) != want {
			t.Fatalf("%q has %d parts", p, len(parts))
		}
		checkSums(t, p, parts)
	}
}

// rebuild returns the text of a program from the heads of its statements.
func rebuild(p string) string {
	if p == "" {
		return ""
	}
	text := p[:1] + impl.HeadOf(p)
	for _, part := range impl.PartsOf(p) {
		text += rebuild(part)
	}
	return text
}

// checkSums compares what is told of a program with what is told of its parts.
func checkSums(t *testing.T, p string, parts []string) {
	t.Helper()
	size, depth, loops, plain := 1, 1, 0, p[0] != '/' && p[0] != '~'
	reads, writes := impl.HeadOf(p), ""
	if p[0] == '@' {
		loops = 1
	}
	if p[0] == 'a' {
		reads, writes = reads[1:], reads[:1]
	}
	for _, part := range parts {
		if !impl.ProgramValid(part) {
			t.Fatalf("%q, a part of %q, is no program", part, p)
		}
		size += impl.SizeOf(part)
		depth = max(depth, 1+impl.DepthOf(part))
		loops += impl.LoopCount(part)
		plain = plain && impl.IsPlain(part)
		reads += impl.ReadsOf(part)
		writes += impl.WritesOf(part)
	}
	if impl.SizeOf(p) != size || impl.DepthOf(p) != depth || impl.LoopCount(p) != loops || impl.IsPlain(p) != plain {
		t.Fatalf("the size, the depth, the loops, or whether it is plain, of %q are not told by its parts", p)
	}
	if impl.ReadsOf(p) != modelVars(reads) || impl.WritesOf(p) != modelVars(writes) {
		t.Fatalf("what %q reads and writes is not told by its parts", p)
	}
}

// Promise 3, its second half.
func TestExchangingTwiceChangesNothing(t *testing.T) {
	for _, p := range append(somePrograms(), fullPrograms()...) {
		for _, v := range letters() {
			for _, w := range letters() {
				once, ok := impl.SwapProgram(p, v, w)
				if !ok || !impl.ProgramValid(once) || v == w && once != p {
					t.Fatalf("SwapProgram(%q, %q, %q) = %q, %v", p, v, w, once, ok)
				}
				twice, ok := impl.SwapProgram(once, v, w)
				wantText(t, "SwapProgram twice of "+p+", "+v+", "+w, twice, ok, p, true)
				back, ok := impl.SwapProgram(once, w, v)
				wantText(t, "SwapProgram there and back of "+p+", "+v+", "+w, back, ok, p, true)
				checkExchanged(t, p, once, v, w)
			}
		}
	}
}

// checkExchanged compares what is told of a program and of the exchanged one.
func checkExchanged(t *testing.T, p, once, v, w string) {
	t.Helper()
	if impl.HeadOf(once) != modelSwap(impl.HeadOf(p), v, w) || impl.ShowProgram(once) != modelSwap(impl.ShowProgram(p), v, w) {
		t.Fatalf("%q has another head or form than %q with %s and %s exchanged", once, p, v, w)
	}
	if impl.ReadsOf(once) != modelVars(modelSwap(impl.ReadsOf(p), v, w)) || impl.WritesOf(once) != modelVars(modelSwap(impl.WritesOf(p), v, w)) {
		t.Fatalf("%q reads or writes others than %q with %s and %s exchanged", once, p, v, w)
	}
	if impl.SizeOf(once) != impl.SizeOf(p) || impl.DepthOf(once) != impl.DepthOf(p) || impl.LoopCount(once) != impl.LoopCount(p) || impl.IsPlain(once) != impl.IsPlain(p) {
		t.Fatalf("%q is not of the same form as %q", once, p)
	}
	for i, part := range impl.PartsOf(p) {
		swapped, _ := impl.SwapProgram(part, v, w)
		if impl.PartsOf(once)[i] != swapped {
			t.Fatalf("%q is not made of the exchanged parts of %q", once, p)
		}
	}
}
