package tests

import (
	"math"
	"strings"
	"testing"

	"loop.example/productprograms/impl"
)

// A model of expressions and tests that shares nothing with the program: it
// reads and computes a text at once, by recursion, from the left.

// modelExpr returns the value of the expression that a text begins with, and
// the text behind it.
func modelExpr(text string, s impl.State) (int, string, bool) {
	if text == "" {
		return 0, "", false
	}
	if i := strings.IndexByte("012xyz", text[0]); i >= 0 {
		return []int{0, 1, 2, s.X, s.Y, s.Z}[i], text[1:], true
	}
	if !strings.Contains("+-*", text[:1]) {
		return 0, "", false
	}
	a, rest, ok := modelExpr(text[1:], s)
	if !ok {
		return 0, "", false
	}
	b, rest, ok := modelExpr(rest, s)
	if !ok {
		return 0, "", false
	}
	n := map[byte]int{'+': a + b, '-': a - b + 3, '*': a * b}[text[0]]
	return n % 3, rest, true
}

// modelTest does the same with a test.
func modelTest(text string, s impl.State) (bool, string, bool) {
	if text == "" {
		return false, "", false
	}
	switch text[0] {
	case 't', 'f':
		return text[0] == 't', text[1:], true
	case '=', '<':
		a, rest, ok := modelExpr(text[1:], s)
		if !ok {
			return false, "", false
		}
		b, rest, ok := modelExpr(rest, s)
		return text[0] == '=' && a == b || text[0] == '<' && a < b, rest, ok
	case '!':
		a, rest, ok := modelTest(text[1:], s)
		return !a, rest, ok
	case '&', '|':
		a, rest, ok := modelTest(text[1:], s)
		if !ok {
			return false, "", false
		}
		b, rest, ok := modelTest(rest, s)
		return text[0] == '&' && a && b || text[0] == '|' && (a || b), rest, ok
	}
	return false, "", false
}

func modelExprValid(text string) bool {
	_, rest, ok := modelExpr(text, impl.State{})
	return ok && rest == "" && len(text) <= 200
}

func modelTestValid(text string) bool {
	_, rest, ok := modelTest(text, impl.State{})
	return ok && rest == "" && len(text) <= 200
}

// modelVars returns the letters of variables in a text.
func modelVars(text string) string {
	vars := ""
	for _, v := range []string{"x", "y", "z"} {
		if strings.Contains(text, v) {
			vars += v
		}
	}
	return vars
}

func allStates() []impl.State {
	var list []impl.State
	for z := 0; z < 3; z++ {
		for y := 0; y < 3; y++ {
			for x := 0; x < 3; x++ {
				list = append(list, impl.State{X: x, Y: y, Z: z})
			}
		}
	}
	return list
}

// brokenStates returns states in which one or more values are out of range.
func brokenStates() []impl.State {
	var list []impl.State
	for _, n := range []int{-1, 3, -3, 4, 256, 257, math.MaxInt, math.MinInt} {
		list = append(list, impl.State{X: n}, impl.State{Y: n}, impl.State{Z: n},
			impl.State{X: 2, Y: n, Z: 1}, impl.State{X: n, Y: n, Z: n})
	}
	return list
}

// brokenLetters returns texts that are no letters of a variable.
func brokenLetters() []string {
	return []string{"", "X", "Y", "Z", "w", "a", "t", "0", "1", "+", "=", " ", "xy", "xyz", "xx", "yz", "x ", " x", "+x1", "x\x00", "\x00", "\xff", "ẋ"}
}

// brokenEverywhere returns texts that are neither expressions nor tests.
func brokenEverywhere() []string {
	return []string{
		"", " ", "\x00", "\n", "\xff", "\x80x", "x\xff", "t\xff", "é", "ẋ", "\u0178", "\u0174", "+\u01781", "!\u0174",
		"X", "Y", "Z", "=xX", "+X1", "3", "9", "w", "a", "s", "T", "F", "/", "(x)", "true",
		"+", "-", "*", "=", "<", "!", "&", "|", ">xy", "==xy", ">", "%xy",
		"+x", "-1", "*", "++xy", "+x*2", "=x", "<1", "!!", "&t", "|f", "&=x1", "|&tft&",
		"xy", "00", "10", "+xyz", "+x1 ", " +x1", "+ x1", "tt", "ff", "!tt", "&tft", "=xyz", "=xy ", " t", "t\n",
		"+tx", "+x=xy", "=tt", "=x=xy", "<ft", "!x", "!0", "&xy", "|t1", "&tx", "|xt", "x+y", "x=y", "t&f",
		strings.Repeat("+", 100) + strings.Repeat("x", 101),
		strings.Repeat("!", 200) + "t",
		longSum(5001), strings.Repeat("!", 5000) + "t", strings.Repeat("&", 5000) + strings.Repeat("t", 5001),
	}
}

// longSum returns a sum of as many variables x as the length tells: an
// expression has an odd number of letters.
func longSum(length int) string {
	return strings.Repeat("+", length/2) + strings.Repeat("x", length/2+1)
}

// compounds returns, for each operator and two operands, their text.
func compounds(operators string, left, right []string) []string {
	var list []string
	for _, o := range strings.Split(operators, "") {
		for _, a := range left {
			for _, b := range right {
				list = append(list, o+a+b)
			}
		}
	}
	return list
}

func atoms() []string { return []string{"0", "1", "2", "x", "y", "z"} }

// shortExprs returns all expressions of at most three letters.
func shortExprs() []string {
	return append(atoms(), compounds("+-*", atoms(), atoms())...)
}

// someExprs returns all expressions of at most five letters, and longer ones.
func someExprs() []string {
	three := compounds("+-*", atoms(), atoms())
	list := append(shortExprs(), compounds("+-*", three, atoms())...)
	list = append(list, compounds("+-*", atoms(), three)...)
	return append(list, "+-x*2y*-01+zz", "-+12x", "*+12-*22+12", "--01-02", "+++1111", "-x-y-z-12", "*-12-02", longSum(199))
}

// someTests returns tests of all forms, within each other.
func someTests() []string {
	exprs := []string{"x", "y", "z", "0", "1", "2", "+x*2y", "-yz", "*zx", "-01"}
	flat := append([]string{"t", "f"}, compounds("=<", exprs, exprs)...)
	list := append([]string{}, flat...)
	for _, t := range flat {
		list = append(list, "!"+t, "!!"+t)
	}
	small := []string{"t", "f", "=xy", "<x1", "!<zy", "&=x1t", "|f<yz"}
	list = append(list, compounds("&|", small, small)...)
	return append(list, "&!=x1|t<+xyz", "||=x0=y0&=z0!t", strings.Repeat("!", 199)+"t", strings.Repeat("!", 196)+"<xy")
}

// wantText reports a result of a text and a truth that is not what is expected.
func wantText(t *testing.T, call string, got string, ok bool, want string, wantOK bool) {
	t.Helper()
	if got != want || ok != wantOK {
		t.Errorf("%s = %q, %v, want %q, %v", call, got, ok, want, wantOK)
	}
}
