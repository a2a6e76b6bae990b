package tests

import (
	"strings"
	"testing"

	"loop.example/productprograms/impl"
)

// A model of transformations that takes texts apart and joins new ones, one
// statement after the other (readModel, programs_helper_test.go).

// rewritingNames returns the names of all rewritings.
func rewritingNames() []string {
	return []string{"skips", "flat", "unroll", "swap", "push", "sets"}
}

// A modelTransform is a function of a program, and what it should return.
type modelTransform struct {
	name string
	call func(p string) (string, bool)
	want func(p string) (string, bool)
}

// allTransforms returns all transformations of programs, RewriteAll by each name.
func allTransforms() []modelTransform {
	list := []modelTransform{
		{"FoldProgram", impl.FoldProgram, modelFoldProgram},
		{"DropSkips", impl.DropSkips, func(p string) (string, bool) { return modelRewriteAll(p, "skips") }},
		{"FlattenProgram", impl.FlattenProgram, func(p string) (string, bool) { return modelRewriteAll(p, "flat") }},
		{"UnrollLoop", impl.UnrollLoop, func(p string) (string, bool) { return modelAlone(p, "unroll") }},
		{"SwapBranches", impl.SwapBranches, func(p string) (string, bool) { return modelAlone(p, "swap") }},
		{"PushAfter", impl.PushAfter, func(p string) (string, bool) { return modelAlone(p, "push") }},
		{"MergeSets", impl.MergeSets, func(p string) (string, bool) { return modelAlone(p, "sets") }},
		{"TidyProgram", impl.TidyProgram, modelTidy},
	}
	for _, name := range rewritingNames() {
		list = append(list, modelTransform{
			"RewriteAll by " + name,
			rewriteBy(name),
			func(p string) (string, bool) { return modelRewriteAll(p, name) },
		})
	}
	return list
}

// rewriteBy returns RewriteAll by a name.
func rewriteBy(name string) func(string) (string, bool) {
	return func(p string) (string, bool) { return impl.RewriteAll(p, name) }
}

// modelFold returns the expression or the test that a valid text begins with,
// folded, and the text behind it.
func modelFold(text string) (string, string) {
	letter := text[:1]
	if strings.Contains("xyz012tf", letter) {
		return letter, text[1:]
	}
	a, rest := modelFold(text[1:])
	if letter == "!" {
		return modelFoldOf("!"+a, a, "tf"), rest
	}
	b, rest := modelFold(rest)
	switch {
	case letter == "&" && (a == "f" || b == "f"):
		return "f", rest
	case letter == "|" && (a == "t" || b == "t"):
		return "t", rest
	case letter == "&" && a == "t" || letter == "|" && a == "f":
		return b, rest
	case letter == "&" && b == "t" || letter == "|" && b == "f":
		return a, rest
	case letter == "&" || letter == "|":
		return letter + a + b, rest
	}
	return modelFoldOf(letter+a+b, a+b, "012"), rest
}

// modelFoldOf computes a text if its operands are of some letters alone, one each.
func modelFoldOf(whole, operands, letters string) string {
	if len(whole) > 3 || strings.Trim(operands, letters) != "" {
		return whole
	}
	if n, rest, ok := modelExpr(whole, impl.State{}); ok && rest == "" {
		return "012"[n : n+1]
	}
	is, _, _ := modelTest(whole, impl.State{})
	return map[bool]string{true: "t", false: "f"}[is]
}

func modelFoldProgram(p string) (string, bool) {
	m, _, _ := readModel(p)
	var parts []string
	for _, part := range m.parts {
		folded, _ := modelFoldProgram(part)
		parts = append(parts, folded)
	}
	letter, head := p[:1], m.head
	if letter == "a" {
		folded, _ := modelFold(head[1:])
		head = head[:1] + folded
	} else if head != "" {
		head, _ = modelFold(head)
	}
	switch {
	case letter == "?" && head == "t":
		return parts[0], true
	case letter == "?" && head == "f":
		return parts[1], true
	case letter == "@" && head == "f", letter == "~" && head == "t":
		return "s", true
	}
	return letter + head + strings.Join(parts, ""), true
}

// modelRewrite applies a rewriting to a statement, if it can be.
func modelRewrite(p, name string) (string, bool) {
	m, _, _ := readModel(p)
	switch letter := p[:1]; name + letter {
	case "skipsa", "skips;", "skips?", "skips/":
		return modelDrop(p, m)
	case "flat;":
		list := modelStatements(p)
		return ";" + strings.Join(list[:len(list)-1], ";") + list[len(list)-1], true
	case "unroll@":
		return "?" + m.head + ";" + m.parts[0] + p + "s", true
	case "swap?":
		return "?!" + m.head + m.parts[1] + m.parts[0], true
	case "push;":
		first, _, _ := readModel(m.parts[0])
		if m.parts[0][:1] == "?" {
			return "?" + first.head + ";" + first.parts[0] + m.parts[1] + ";" + first.parts[1] + m.parts[1], true
		}
	case "sets;":
		if a, b := m.parts[0], m.parts[1]; a[:1] == "a" && b[:1] == "a" && a[1] == b[1] {
			return b[:2] + strings.Join(strings.Split(b[2:], a[1:2]), a[2:]), true
		}
	}
	return "", false
}

// modelDrop leaves out what does nothing.
func modelDrop(p string, m modelProgram) (string, bool) {
	switch {
	case p == "axx" || p == "ayy" || p == "azz":
		return "s", true
	case p[:1] == "a":
		return "", false
	case p[:1] == ";" && m.parts[0] == "s":
		return m.parts[1], true
	case p[:1] == ";":
		return m.parts[0], m.parts[1] == "s"
	}
	return m.parts[0], m.parts[0] == m.parts[1]
}

// modelThroughout rewrites a program and all programs within, none of which may become
// longer than a wide program by its own rewriting.
func modelThroughout(p, name string) (string, bool) {
	m, _, _ := readModel(p)
	p = p[:1] + m.head
	for _, part := range m.parts {
		part, ok := modelThroughout(part, name)
		if !ok {
			return "", false
		}
		p += part
	}
	if rewritten, ok := modelRewrite(p, name); ok {
		p = rewritten
	}
	return p, len(p) <= 1000
}

func modelRewriteAll(p, name string) (string, bool) {
	return noLonger(modelThroughout(p, name))
}

func modelAlone(p, name string) (string, bool) {
	return noLonger(modelRewrite(p, name))
}

// noLonger returns what is no longer than a program.
func noLonger(p string, ok bool) (string, bool) {
	if !ok || len(p) > 200 {
		return "", false
	}
	return p, true
}

// modelTidy goes by rounds, and returns the program after the last one.
func modelTidy(p string) (string, bool) {
	rounds := tidyRounds(p)
	return rounds[len(rounds)-1], true
}

// tidyRounds returns the program, and what it becomes by each round that changes it.
func tidyRounds(p string) []string {
	var list []string
	for before := ""; p != before; {
		list = append(list, p)
		before = p
		p, _ = modelFoldProgram(p)
		p, _ = modelRewriteAll(p, "skips")
		p, _ = modelRewriteAll(p, "flat")
	}
	return list
}

// wantTransform reports a transformation that does not return what is expected, or
// returns a program that does another thing.
func wantTransform(t *testing.T, name string, call func(string) (string, bool), p, want string, wantOK bool) {
	t.Helper()
	got, ok := call(p)
	wantText(t, name+" of "+p, got, ok, want, wantOK)
	if ok && got != p && !impl.SamePrograms(p, got) {
		t.Errorf("%s makes %q of %q, which does not do the same", name, got, p)
	}
}

// checkTransforms compares all transformations of a program with the model.
func checkTransforms(t *testing.T, p string) {
	t.Helper()
	table := tableOfText(p)
	checked := map[string]bool{p: true}
	for _, f := range allTransforms() {
		want, wantOK := f.want(p)
		got, ok := f.call(p)
		if !wantOK {
			want = ""
		}
		wantText(t, f.name+" of "+p, got, ok, want, wantOK)
		if !ok || checked[got] {
			continue
		}
		checked[got] = true
		if len(got) > 200 || !impl.ProgramValid(got) {
			t.Errorf("%s of %q is %q, which is no program", f.name, p, got)
		} else if tableOfText(got) != table {
			t.Errorf("%s of %q is %q, which does not do the same", f.name, p, got)
		}
	}
}

// checkNoTransforms checks that no transformation of a text returns a program.
func checkNoTransforms(t *testing.T, p string) {
	t.Helper()
	for _, f := range allTransforms() {
		got, ok := f.call(p)
		wantText(t, f.name+" of what is no program", got, ok, "", false)
	}
	for _, name := range namesOfNoRewriting()[:6] {
		got, ok := impl.RewriteAll(p, name)
		wantText(t, "RewriteAll of what is no program", got, ok, "", false)
	}
}

// namesOfNoRewriting returns texts that are none of the names of rewritings.
func namesOfNoRewriting() []string {
	return []string{
		"", " ", "fold", "tidy", "s", "x", "skip", "Skips", "SKIPS", "skips ", " skips", "skips\n", "skips\x00", "\xffskips", "skipsflat", "skips flat", "flat,push", "flatten", "Flat", "fla", "unrolls", "unrol", "loop", "swaps", "swa", "pushes", "Push", "after", "set", "sets;", "Sets", "merge",
		"?", ";", "@", "a", "~", "/", "t", "drop", "all", "none", "0", "1", "rewrite", "FoldProgram", "DropSkips", strings.Repeat("skips", 1000), strings.Repeat("s", 1<<20),
	}
}

// A rewritable program is one that transformations apply to in many places: a
// statement of any kind, with parts of less depth.
func rewritableProgram(seed *uint32, depth int) string {
	*seed = *seed*1664525 + 1013904223
	n := *seed >> 8
	flat := []string{"s", "axx", "ax+x1", "ax+12", "ax*xx", "ay+y1", "ayy", "ay-+21y", "azx", "~t", "~=12", "~!=01", "~<x2", "s", "ax1", "az2"}
	tests := []string{"t", "f", "=11", "<21", "<x2", "!=y0", "&tf", "&t=xy", "|f<zy", "|!f=x1", "!!=z2", "=+12*0x", "<+12+22", "=xx"}
	test := tests[n>>6%uint32(len(tests))]
	again := *seed
	switch kind := n % 16; {
	case depth == 0:
		return flat[n>>4%uint32(len(flat))]
	case kind < 2:
		return "@" + test + rewritableProgram(seed, depth-1)
	case kind < 4:
		return "?" + test + rewritableProgram(seed, depth-1) + rewritableProgram(seed, depth-1)
	case kind == 4:
		return ";?" + test + rewritableProgram(seed, depth-1) + rewritableProgram(seed, depth-1) + rewritableProgram(seed, 0)
	case kind == 5:
		// Both parts are equal.
		return "?" + test + rewritableProgram(seed, depth-1) + rewritableProgram(&again, depth-1)
	case kind == 6:
		return "/" + rewritableProgram(seed, depth-1) + rewritableProgram(&again, depth-1)
	case kind == 7:
		return "/" + rewritableProgram(seed, depth-1) + ";s" + rewritableProgram(&again, depth-1)
	case kind == 8:
		return "/" + rewritableProgram(seed, depth-1) + rewritableProgram(seed, depth-1)
	case kind == 9:
		return ";ax+xy;ax*xx" + rewritableProgram(seed, depth-1)
	}
	return ";" + rewritableProgram(seed, depth-1) + rewritableProgram(seed, depth-1)
}

// rewritablePrograms returns such programs, from small ones on.
func rewritablePrograms(each int) []string {
	seed := uint32(1511)
	var list []string
	for depth := range 6 {
		for range each {
			if p := rewritableProgram(&seed, depth); len(p) <= 200 {
				list = append(list, p)
			}
		}
	}
	return list
}
