package impl

import "strings"

// Values is the number of values of a variable, and MaxText limits texts.
const (
	Values  = 3
	MaxText = 200
)

// The letters of the variables, in the order in which results list them.
const variables = "xyz"

// What a text, or an operand within it, has to be.
const (
	exprKind     = 'e'
	testKind     = 't'
	variableKind = 'v'
	programKind  = 'p'
)

// A State gives the variables values.
type State struct {
	X int
	Y int
	Z int
}

// A pair is the states that a term speaks of. Only wide terms speak of the second
// one.
type pair struct {
	first  State
	second State
}

// A term is a text of any kind as it is read: its first letter and its operands.
type term struct {
	letter byte
	parts  []term
}

// A place is where a term of a kind is still to be read.
type place struct {
	kind byte
	into *term
}

// readTerm is the face of the reader: what the reader panics at is no term.
func readTerm(text string, kind byte) (t term, ok bool) {
	defer func() {
		if recover() != nil {
			t, ok = term{}, false
		}
	}()
	return mustRead(text, kind), true
}

// mustRead panics if the text is not a term of the kind. It keeps the places
// that are still open, the next one last, and so needs no recursion.
func mustRead(text string, kind byte) term {
	if len(text) > longest(kind) {
		panic("text too long")
	}
	var root term
	open := []place{{kind, &root}}
	for _, letter := range text {
		if len(open) == 0 {
			panic("text goes on after its end")
		}
		next := open[len(open)-1]
		kinds := operandKinds(next.kind, letter)
		next.into.letter = byte(letter)
		next.into.parts = make([]term, len(kinds))
		open = open[:len(open)-1]
		for i := len(kinds) - 1; i >= 0; i-- {
			open = append(open, place{kinds[i], &next.into.parts[i]})
		}
	}
	if len(open) > 0 {
		panic("text ends too early")
	}
	return root
}

// longest returns how many bytes a text of a kind may have.
func longest(kind byte) int {
	if kind == wideProgramKind {
		return MaxWide
	}
	return MaxText
}

// operandKinds returns the kinds of the operands that follow a letter, and
// panics if no term of the kind begins with it.
func operandKinds(kind byte, letter rune) string {
	switch kind {
	case exprKind:
		switch letter {
		case 'x', 'y', 'z', '0', '1', '2':
			return ""
		case '+', '-', '*':
			return "ee"
		}
	case testKind:
		switch letter {
		case 't', 'f':
			return ""
		case '=', '<':
			return "ee"
		case '!':
			return "t"
		case '&', '|':
			return "tt"
		}
	case variableKind:
		switch letter {
		case 'x', 'y', 'z':
			return ""
		}
	case programKind:
		return statementOperands(letter)
	case wideExprKind, wideTestKind, wideVariableKind, wideProgramKind:
		return wideOperands(kind, letter)
	}
	panic("letter out of place")
}

// value returns the value of an expression.
func (t term) value(of pair) int {
	switch t.letter {
	case 'x':
		return of.first.X
	case 'y':
		return of.first.Y
	case 'z':
		return of.first.Z
	case 'X':
		return of.second.X
	case 'Y':
		return of.second.Y
	case 'Z':
		return of.second.Z
	case '+', '-', '*':
		return compute(t.letter, t.parts[0].value(of), t.parts[1].value(of))
	}
	return int(t.letter - '0')
}

// compute returns the value of an operator of two values.
func compute(operator byte, a, b int) int {
	switch operator {
	case '+':
		return (a + b) % Values
	case '-':
		// The remainder of a negative number would be negative.
		return (a - b + Values) % Values
	}
	return a * b % Values
}

// holds reports whether a test is true.
func (t term) holds(of pair) bool {
	switch t.letter {
	case '=':
		return t.parts[0].value(of) == t.parts[1].value(of)
	case '<':
		return t.parts[0].value(of) < t.parts[1].value(of)
	case '!':
		return !t.parts[0].holds(of)
	case '&':
		return t.parts[0].holds(of) && t.parts[1].holds(of)
	case '|':
		return t.parts[0].holds(of) || t.parts[1].holds(of)
	}
	return t.letter == 't'
}

// with returns the pair in which a variable has another value.
func (of pair) with(v string, n int) pair {
	switch v {
	case "x":
		of.first.X = n
	case "y":
		of.first.Y = n
	case "z":
		of.first.Z = n
	case "X":
		of.second.X = n
	case "Y":
		of.second.Y = n
	case "Z":
		of.second.Z = n
	}
	return of
}

// text returns the text from which a term was read.
func (t term) text() string {
	text := string(rune(t.letter))
	for _, part := range t.parts {
		text += part.text()
	}
	return text
}

// show returns an expression or a test in the usual form.
func (t term) show() string {
	letter := string(rune(t.letter))
	switch t.letter {
	case 't':
		return "true"
	case 'f':
		return "false"
	case '!':
		return "!(" + t.parts[0].show() + ")"
	case '=', '<':
		return t.parts[0].show() + letter + t.parts[1].show()
	case '+', '-', '*', '&', '|':
		return "(" + t.parts[0].show() + letter + t.parts[1].show() + ")"
	}
	return letter
}

// fold returns the text of an expression in which all operators of two digits
// are computed.
func (t term) fold() string {
	letter := string(rune(t.letter))
	if len(t.parts) == 0 {
		return letter
	}
	a, b := t.parts[0].fold(), t.parts[1].fold()
	if isDigit(a) && isDigit(b) {
		return digitOf(compute(t.letter, int(a[0]-'0'), int(b[0]-'0')))
	}
	return letter + a + b
}

func isDigit(e string) bool {
	return len(e) == 1 && isValue(int(e[0])-'0')
}

func digitOf(n int) string {
	return "012"[n : n+1]
}

func isValue(n int) bool {
	return 0 <= n && n < Values
}

func isVariable(v string) bool {
	return len(v) == 1 && strings.Contains(variables, v)
}

// StateValid reports whether a state is valid.
func StateValid(s State) bool {
	return isValue(s.X) && isValue(s.Y) && isValue(s.Z)
}

// ExprValid reports whether a text is an expression.
func ExprValid(e string) bool {
	_, ok := readTerm(e, exprKind)
	return ok
}

// TestValid reports whether a text is a test.
func TestValid(t string) bool {
	_, ok := readTerm(t, testKind)
	return ok
}

// EvalExpr returns the value of an expression in a state.
func EvalExpr(e string, s State) (int, bool) {
	read, ok := readTerm(e, exprKind)
	if !ok || !StateValid(s) {
		return 0, false
	}
	return read.value(pair{first: s}), true
}

// EvalTest reports whether a test is true in a state.
func EvalTest(t string, s State) (bool, bool) {
	read, ok := readTerm(t, testKind)
	if !ok || !StateValid(s) {
		return false, false
	}
	return read.holds(pair{first: s}), true
}

// ExprVars returns the variables of an expression.
func ExprVars(e string) string {
	return varsOf(e, exprKind)
}

// TestVars returns the variables of a test.
func TestVars(t string) string {
	return varsOf(t, testKind)
}

// varsOf need not look at the term: in a valid text, the letter of a variable
// is always a variable.
func varsOf(text string, kind byte) string {
	if _, ok := readTerm(text, kind); !ok {
		return ""
	}
	return variablesIn(text)
}

// variablesIn returns the letters of variables that occur in a text.
func variablesIn(text string) string {
	return variablesWhere(func(v string) bool { return strings.Contains(text, v) })
}

// variablesWhere returns the letters of the variables that are as asked for.
func variablesWhere(asked func(v string) bool) string {
	found := ""
	for _, v := range variables {
		if asked(string(v)) {
			found += string(v)
		}
	}
	return found
}

// SubstExpr puts an expression in place of a variable.
func SubstExpr(e string, v string, by string) (string, bool) {
	return substitute(e, exprKind, v, by)
}

// SubstTest puts an expression in place of a variable of a test.
func SubstTest(t string, v string, by string) (string, bool) {
	return substitute(t, testKind, v, by)
}

// substitute replaces all places at once, so that a variable within by stays.
func substitute(text string, kind byte, v string, by string) (string, bool) {
	if _, ok := readTerm(text, kind); !ok || !isVariable(v) || !ExprValid(by) {
		return "", false
	}
	result := strings.ReplaceAll(text, v, by)
	if len(result) > MaxText {
		return "", false
	}
	return result, true
}

// ShowExpr returns an expression in the usual form.
func ShowExpr(e string) string {
	return showText(e, exprKind)
}

// ShowTest returns a test in the usual form.
func ShowTest(t string) string {
	return showText(t, testKind)
}

func showText(text string, kind byte) string {
	read, ok := readTerm(text, kind)
	if !ok {
		return ""
	}
	return read.show()
}

// FoldExpr computes what has no variables.
func FoldExpr(e string) (string, bool) {
	read, ok := readTerm(e, exprKind)
	if !ok {
		return "", false
	}
	return read.fold(), true
}

// SetVar returns a state with another value of a variable.
func SetVar(s State, v string, n int) (State, bool) {
	if !StateValid(s) || !isVariable(v) || !isValue(n) {
		return State{}, false
	}
	return pair{first: s}.with(v, n).first, true
}
