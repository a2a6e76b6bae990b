package tests

import (
	"slices"
	"strings"
	"testing"

	"loop.example/productprograms/impl"
)

// A model of programs: what the chapter tells of a program, all at once, read
// by recursion from the left of the text.
type modelProgram struct {
	head   string
	parts  []string
	size   int
	depth  int
	loops  int
	reads  string // letters in any order, and more than once
	writes string
	plain  bool
	shown  string
}

// readModel returns the program that a text begins with, and the text behind it.
func readModel(text string) (modelProgram, string, bool) {
	m := modelProgram{size: 1, depth: 1, plain: true}
	if text == "" {
		return m, "", false
	}
	letter, rest, ok := text[:1], text[1:], true
	switch letter {
	case "s", ";":
	case "a":
		if rest == "" || !strings.Contains("xyz", rest[:1]) {
			return m, "", false
		}
		m.writes = rest[:1]
		_, rest, ok = modelExpr(rest[1:], impl.State{})
	case "?", "@", "~":
		_, rest, ok = modelTest(rest, impl.State{})
	case "/":
		m.plain = false
	default:
		return m, "", false
	}
	if !ok {
		return m, "", false
	}
	m.plain = m.plain && letter != "~"
	m.head = text[1 : len(text)-len(rest)]
	m.reads = m.head[len(m.writes):]
	if letter == "@" {
		m.loops = 1
	}
	return readModelParts(m, letter, rest)
}

func readModelParts(m modelProgram, letter, rest string) (modelProgram, string, bool) {
	var shown []string
	for range map[string]int{";": 2, "?": 2, "@": 1, "/": 2}[letter] {
		part, behind, ok := readModel(rest)
		if !ok {
			return m, "", false
		}
		m.parts = append(m.parts, rest[:len(rest)-len(behind)])
		m.size += part.size
		m.depth = max(m.depth, part.depth+1)
		m.loops += part.loops
		m.reads += part.reads
		m.writes += part.writes
		m.plain = m.plain && part.plain
		shown = append(shown, part.shown)
		rest = behind
	}
	m.shown = modelForm(letter, m.head, shown)
	return m, rest, true
}

// modelForm returns a statement in the usual form.
func modelForm(letter, head string, parts []string) string {
	form := map[string]string{
		"s": "skip", "a": "V:=T", ";": "P; Q", "?": "if T {P} else {Q}", "@": "while T {P}", "/": "either {P} or {Q}", "~": "assume T",
	}[letter]
	term := head
	if letter == "a" {
		form = strings.Replace(form, "V", head[:1], 1)
		term = head[1:]
	}
	shown := ""
	if term != "" {
		shown, _ = modelShow(term)
	}
	// No capital stands in a form, so nothing is put in place twice.
	for i, place := range []string{"P", "Q"} {
		if i < len(parts) {
			form = strings.Replace(form, place, parts[i], 1)
		}
	}
	return strings.Replace(form, "T", shown, 1)
}

// modelShow returns the expression or the test that a valid text begins with in
// the usual form, and the text behind it.
func modelShow(text string) (string, string) {
	switch letter := text[:1]; letter {
	case "t":
		return "true", text[1:]
	case "f":
		return "false", text[1:]
	case "!":
		a, rest := modelShow(text[1:])
		return "!(" + a + ")", rest
	case "+", "-", "*", "=", "<", "&", "|":
		a, rest := modelShow(text[1:])
		b, rest := modelShow(rest)
		if letter == "=" || letter == "<" {
			return a + letter + b, rest
		}
		return "(" + a + letter + b + ")", rest
	default:
		return letter, text[1:]
	}
}

// modelOf returns the model of a whole text, and whether it is a program.
func modelOf(text string) (modelProgram, bool) {
	m, rest, ok := readModel(text)
	return m, ok && rest == "" && len(text) <= 200
}

// modelSwap exchanges two letters.
func modelSwap(text, v, w string) string {
	text = strings.ReplaceAll(text, v, "\x00")
	text = strings.ReplaceAll(text, w, v)
	return strings.ReplaceAll(text, "\x00", w)
}

// checkProgram compares every function of the chapter with the model, whether
// the text is a program or not.
func checkProgram(t *testing.T, p string) {
	t.Helper()
	m, ok := modelOf(p)
	if !ok {
		checkNoProgram(t, p)
		return
	}
	if !impl.ProgramValid(p) {
		t.Fatalf("ProgramValid(%q) = false", p)
	}
	if got := impl.ShowProgram(p); got != m.shown {
		t.Errorf("ShowProgram(%q) = %q, want %q", p, got, m.shown)
	}
	if got := impl.HeadOf(p); got != m.head {
		t.Errorf("HeadOf(%q) = %q, want %q", p, got, m.head)
	}
	if got := impl.PartsOf(p); !slices.Equal(got, m.parts) {
		t.Errorf("PartsOf(%q) = %q, want %q", p, got, m.parts)
	}
	got := [3]int{impl.SizeOf(p), impl.DepthOf(p), impl.LoopCount(p)}
	if want := [3]int{m.size, m.depth, m.loops}; got != want {
		t.Errorf("SizeOf, DepthOf and LoopCount of %q = %v, want %v", p, got, want)
	}
	if reads, writes := impl.ReadsOf(p), impl.WritesOf(p); reads != modelVars(m.reads) || writes != modelVars(m.writes) {
		t.Errorf("ReadsOf and WritesOf of %q = %q and %q, want those of %q and %q", p, reads, writes, m.reads, m.writes)
	}
	if got := impl.IsPlain(p); got != m.plain {
		t.Errorf("IsPlain(%q) = %v", p, got)
	}
	checkSwaps(t, p)
	for _, q := range []string{"s", "ax+y1", p} {
		checkJoin(t, p, q)
		checkJoin(t, q, p)
	}
}

func checkSwaps(t *testing.T, p string) {
	t.Helper()
	for _, v := range letters() {
		for _, w := range letters() {
			got, ok := impl.SwapProgram(p, v, w)
			wantText(t, "SwapProgram of "+p+", "+v+", "+w, got, ok, modelSwap(p, v, w), true)
		}
	}
}

// checkJoin joins two programs, or more than fits.
func checkJoin(t *testing.T, p, q string) {
	t.Helper()
	want, fits := ";"+p+q, len(p)+len(q) < 200
	if !fits {
		want = ""
	}
	got, ok := impl.JoinPrograms(p, q)
	wantText(t, "JoinPrograms of "+p+", "+q, got, ok, want, fits)
}

// checkNoProgram checks every result that the chapter states for a text that is
// no program.
func checkNoProgram(t *testing.T, p string) {
	t.Helper()
	if impl.ProgramValid(p) || impl.IsPlain(p) {
		t.Errorf("ProgramValid or IsPlain of %.60q is true", p)
	}
	if texts := impl.ShowProgram(p) + impl.HeadOf(p) + impl.ReadsOf(p) + impl.WritesOf(p); texts != "" {
		t.Errorf("ShowProgram, HeadOf, ReadsOf and WritesOf of %.60q are %q", p, texts)
	}
	if got := impl.PartsOf(p); len(got) != 0 {
		t.Errorf("PartsOf(%.60q) = %q", p, got)
	}
	got := [3]int{impl.SizeOf(p), impl.DepthOf(p), impl.LoopCount(p)}
	if got != [3]int{-1, -1, -1} {
		t.Errorf("SizeOf, DepthOf and LoopCount of %.60q = %v", p, got)
	}
	for _, pair := range [][2]string{{p, "s"}, {"s", p}, {p, p}} {
		got, ok := impl.JoinPrograms(pair[0], pair[1])
		wantText(t, "JoinPrograms of what is no program", got, ok, "", false)
	}
	for _, v := range []string{"x", "z", "s"} {
		got, ok := impl.SwapProgram(p, v, "x")
		wantText(t, "SwapProgram of what is no program", got, ok, "", false)
	}
}

// smallPrograms returns statements of every kind without parts, and with parts
// that have none.
func smallPrograms() []string {
	flat := []string{"s", "ax1", "ay+yx", "az-x*zy", "~t", "~<zy"}
	list := append([]string{}, flat...)
	list = append(list, compounds(";/", flat, flat)...)
	for _, test := range []string{"t", "f", "=xy", "<+z1x", "!<y2", "&=x0|f=z2"} {
		list = append(list, compounds("?", []string{test + "s", test + "ay1", test + "~=z0"}, flat)...)
		list = append(list, compounds("@", []string{test}, flat)...)
	}
	return list
}

// somePrograms returns small programs, these within each other, and programs
// of any form.
func somePrograms() []string {
	small := smallPrograms()
	list := append([]string{}, small...)
	for i, p := range small {
		// Another one that is not of the same form.
		q := small[i*31%len(small)]
		list = append(list, ";"+p+q, "?<xy"+p+q, "@!=z0"+p, "/"+p+q, "@t@f;"+p+"s")
	}
	seed := uint32(2026)
	for length := range 200 {
		list = append(list, anyProgram(&seed, length+1))
	}
	return append(list, ";ax1@<y2ay+yx", ";;sax+12;?t;sssay*1y", "@<x2/ax+x1ax0", "@<x2;ax+x1ay+y1")
}

// anyProgram returns a program of any form that has at most as many bytes.
func anyProgram(seed *uint32, most int) string {
	*seed = *seed*1664525 + 1013904223
	kind := *seed >> 16 % 8
	test := someTests()[*seed>>19%40]
	half := (most - 1 - len(test)) / 2
	switch {
	case kind < 2 && most > 2:
		return ";" + anyProgram(seed, (most-1)/3) + anyProgram(seed, (most-1)*2/3)
	case kind == 2 && most > 2:
		return "/" + anyProgram(seed, (most-1)/2) + anyProgram(seed, (most-1)/2)
	case kind < 5 && half > 0:
		return "?" + test + anyProgram(seed, half) + anyProgram(seed, half)
	case kind == 5 && half > 0:
		return "@" + test + anyProgram(seed, 2*half)
	case kind == 6 && half >= 0:
		return "~" + test
	case most >= 5:
		return "a" + letters()[*seed>>20%3] + shortExprs()[*seed>>20%114]
	}
	return "s"
}

// brokenPrograms returns texts that are no programs.
func brokenPrograms() []string {
	list := []string{
		"", " ", "\n", "\x00", "\xff", "é", "S", "A", "x", "z", "0", "t", "f", "=xy", "+x1", "!t", "skip", "x:=1", "s;s", "true",
		"sx", "ss", "s ", " s", "s\n", "s\x00", "s\xff", "\u0173", "\u0161", "sé", "as", "at", "a1", "a1x", "a+x1", "aX1", "axX", "aw1", "ax3",
		"a", "ax", "ay", "ax+", "ax+x", "ax-1*2", "ax1s", "ax12", "ax+x12", "axt", "ax=xy", "ax1 ", "a x1", "axs", "axax1",
		";", ";s", ";ss s", ";sss", ";;ss", ";ax1", ";axs", ";st", ";s1", "; ss", ";s;s", "sss;",
		"?", "?t", "?ts", "?tsss", "?ss", "?sss", "?xss", "?1ss", "?=xss", "?=xyzss", "?&tss", "?ttss", "?t;ss", "?=xY;ss",
		"@", "@t", "@tss", "@s", "@ss", "@xs", "@=xs", "@tts", "@t@t", "@t;s", "@tt", "@!s",
		"/", "/s", "/sss", "/tss", "/;ss", "/s/s", "/st",
		"~", "~s", "~x", "~tt", "~ts", "~=x", "~=xyz", "~!", "~&t", "~~t", "~t ",
		":ss", "#", "(s)", "{s}", "\\ss", ".", "b", "p", "v", "e", "vx", "ve",
	}
	for _, letter := range []string{"s", "a", ";", "?", "@", "/", "~", "?t", "@t", "x", "\xff"} {
		list = append(list, strings.Repeat(letter, 5000), strings.Repeat(letter, 1<<20))
	}
	return list
}
