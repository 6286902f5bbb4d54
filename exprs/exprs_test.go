package exprs_test

import (
	"math"
	"math/rand"
	"slices"
	"strconv"
	"strings"
	"testing"

	"tailwater/api"
	"tailwater/exprs"
	"tailwater/lexer"
	"tailwater/nodes"
)

// binaries returns the operators of the binary kinds, from 7 on.
func binaries() []string { return strings.Fields("* + - << >> < <= > >= = != and or") }

// allTexts returns the texts of all words and symbols, and of some numbers.
func allTexts() []string {
	return strings.Fields("select count sum min max from union join where window tumble slide every session by key late drop side and or not a b c d k t v ( ) * + - < <= << > >= >> = != 0 7 007 9223372036854775807")
}

// without returns texts without some of them.
func without(l []string, out string) []string {
	return slices.DeleteFunc(slices.Clone(l), func(s string) bool { return slices.Contains(strings.Fields(out), s) })
}

// lineOf returns the number of the line of the grammar that a kind is in, from 1 for "or" on; 9 is that of what has no parts.
func lineOf(kind uint8) int {
	return [20]int{1: 9, 2: 9, 3: 9, 4: 9, 5: 8, 6: 3, 7: 7, 8: 6, 9: 6, 10: 5, 11: 5, 12: 4, 13: 4, 14: 4, 15: 4, 16: 4, 17: 4, 18: 2, 19: 1}[kind]
}

// binary returns the kind of an operator, or 0.
func binary(text string) uint8 {
	if i := slices.Index(binaries(), text); i >= 0 {
		return uint8(7 + i)
	}
	return 0
}

// sign returns how a kind is written.
func sign(kind uint8, n int64) string {
	switch kind {
	case 1:
		return strconv.FormatInt(n, 10)
	case 2, 3, 4:
		return []string{"k", "t", "v"}[kind-2]
	case 5:
		return "-"
	case 6:
		return "not"
	}
	return binaries()[kind-7]
}

// token returns the token with a text, told by its first byte.
func token(text string, at int) api.Token {
	kind := api.ToSymbol
	switch c := text[0]; {
	case '0' <= c && c <= '9':
		kind = api.ToNumber
	case 'a' <= c && c <= 'z':
		kind = api.ToWord
	}
	return api.Token{Kind: kind, Text: text, At: at}
}

// tokens returns the tokens of texts with blanks between, at the places 0, 2, 4 and so on, up to 400.
func tokens(s string) []api.Token {
	var l []api.Token
	for i, text := range strings.Fields(s) {
		l = append(l, token(text, min(2*i, 400)))
	}
	return l
}

// times returns a text so many times.
func times(n int, s string) string { return strings.Repeat(s, n) }

// tree is an expression, told by what a node has as its parts; token is the index of its token.
type tree struct {
	kind        uint8
	n           int64
	token       int
	parts       []*tree
	size, depth int
}

// made returns a tree with its size and its depth.
func made(kind uint8, n int64, token int, parts ...*tree) *tree {
	whole := &tree{kind, n, token, parts, 1, 1}
	for _, part := range parts {
		whole.size += part.size
		whole.depth = max(whole.depth, 1+part.depth)
	}
	return whole
}

// behind returns nodes with those of a tree behind them, at the places of their tokens.
func (whole *tree) behind(front []api.Node, l []api.Token) []api.Node {
	var ends [2]int
	for i, part := range whole.parts {
		front = part.behind(front, l)
		ends[i] = len(front) - 1
	}
	return append(front, api.Node{Kind: whole.kind, N: whole.n, A: ends[0], B: ends[1], At: l[whole.token].At})
}

// shown returns a tree with its operators ahead of the parts, and with brackets.
func (whole *tree) shown() string {
	text := sign(whole.kind, whole.n)
	for _, part := range whole.parts {
		text += " " + part.shown()
	}
	if len(whole.parts) == 0 {
		return text
	}
	return "(" + text + ")"
}

// treeOf returns the tree whose whole is the last one of some nodes.
func treeOf(l []api.Node) *tree {
	last := l[len(l)-1]
	switch {
	case last.Kind >= 7:
		return made(last.Kind, last.N, 0, treeOf(l[:last.A+1]), treeOf(l[:last.B+1]))
	case last.Kind >= 5:
		return made(last.Kind, last.N, 0, treeOf(l[:last.A+1]))
	}
	return made(last.Kind, last.N, 0)
}

// mark is what the reference has read and not yet used: an operator that waits for its last part, or a bracket (kind 0).
type mark struct {
	kind  uint8
	token int
}

// line returns the line of a mark; a bracket is below all of them.
func (m mark) line() int { return lineOf(m.kind) }

// reader is the reference: it keeps operators and brackets on one stack, and trees on another one.
type reader struct {
	l     []api.Token
	at    int
	marks []mark
	trees []*tree
}

// text returns the text of the next token.
func (r *reader) text() string {
	if r.at == len(r.l) {
		return ""
	}
	return r.l[r.at].Text
}

// top returns the last mark; ok is false if there is none.
func (r *reader) top() (m mark, ok bool) {
	if len(r.marks) == 0 {
		return mark{}, false
	}
	return r.marks[len(r.marks)-1], true
}

// push reads a token as a mark.
func (r *reader) push(kind uint8) {
	r.marks = append(r.marks, mark{kind, r.at})
	r.at++
}

// reduce makes a tree of the last mark and its parts; with an error the reader is at the token of the node.
func (r *reader) reduce() api.Errno {
	m, _ := r.top()
	count := 1
	if m.kind >= 7 {
		count = 2
	}
	first := len(r.trees) - count
	whole := made(m.kind, 0, m.token, slices.Clone(r.trees[first:])...)
	r.marks, r.trees = r.marks[:len(r.marks)-1], append(r.trees[:first], whole)
	switch {
	case whole.size > 60:
		r.at = m.token
		return api.ErrMany
	case whole.depth > 20:
		r.at = m.token
		return api.ErrDeep
	}
	return api.OK
}

// reduceTo makes trees of all marks down to a bracket whose line is at least this.
func (r *reader) reduceTo(line int) api.Errno {
	for {
		m, ok := r.top()
		if !ok || m.kind == 0 || m.line() < line {
			return api.OK
		}
		if e := r.reduce(); e != api.OK {
			return e
		}
	}
}

// operand reads prefixes, brackets and what has no parts; least is the lowest line that may begin there.
func (r *reader) operand(least int) api.Errno {
	for {
		text := r.text()
		switch {
		case text == "(":
			r.push(0)
			least = 1
		case text == "-":
			r.push(5)
			least = 8
		case text == "not" && least <= 3:
			r.push(6)
			least = 3
		case slices.Contains([]string{"k", "t", "v"}, text):
			r.trees = append(r.trees, made(uint8(2+strings.Index("ktv", text)), 0, r.at))
			r.at++
			return api.OK
		case text != "" && text[0] >= '0' && text[0] <= '9':
			n, _ := strconv.ParseInt(text, 10, 64)
			r.trees = append(r.trees, made(1, n, r.at))
			r.at++
			return api.OK
		default:
			return api.ErrForm
		}
	}
}

// operator reads brackets behind an operand, and an operator: it returns the lowest line behind it, or 0 if the expression ends.
func (r *reader) operator() (int, api.Errno) {
	for {
		line := 1
		kind := binary(r.text())
		if kind > 0 {
			line = lineOf(kind)
			least := line
			if line == 4 {
				least = 5
			}
			if e := r.reduceTo(least); e != api.OK {
				return 0, e
			}
			if m, ok := r.top(); !ok || line != 4 || m.line() != 4 {
				r.push(kind)
				return line + 1, api.OK
			}
		}
		if e := r.reduceTo(1); e != api.OK {
			return 0, e
		}
		switch _, open := r.top(); {
		case !open:
			return 0, api.OK
		case r.text() != ")":
			return 0, api.ErrForm
		}
		r.marks = r.marks[:len(r.marks)-1]
		r.at++
	}
}

// reference returns what Parse has to return for tokens that are right, and an index that is.
func reference(l []api.Token, at int) ([]api.Node, int, api.Errno) {
	r := &reader{l: l, at: at}
	for least := 1; least > 0; {
		if e := r.operand(least); e != api.OK {
			return nil, r.at, e
		}
		next, e := r.operator()
		if e != api.OK {
			return nil, r.at, e
		}
		least = next
	}
	return r.trees[0].behind(nil, l), r.at, api.OK
}

// checkNodes fails the test unless Parse returns this.
func checkNodes(t *testing.T, l []api.Token, at int, want []api.Node, end int, err api.Errno) {
	t.Helper()
	if x, n, e := exprs.Parse(l, at); !slices.Equal(x, want) || n != end || e != err {
		t.Errorf("Parse(%v, %d) is %v, %d, %v, want %v, %d, %v", l, at, x, n, e, want, end, err)
	}
}

// checkReference fails the test unless Parse returns what the reference does.
func checkReference(t *testing.T, l []api.Token, at int) {
	t.Helper()
	want, end, e := reference(l, at)
	checkNodes(t, l, at, want, end, e)
}

// checkParsed fails the test unless tokens are parsed as what is shown like this, up to a token.
func checkParsed(t *testing.T, s string, at int, want string, end int) {
	t.Helper()
	l := tokens(s)
	x, n, e := exprs.Parse(l, at)
	if e != api.OK || n != end {
		t.Errorf("Parse(%q, %d) is %v, %d, %v, want %s, %d", s, at, x, n, e, want, end)
		return
	}
	if e := nodes.Check(x); e != api.OK {
		t.Errorf("Parse(%q, %d) is %v, which is %v", s, at, x, e)
	} else if got := treeOf(x).shown(); got != want {
		t.Errorf("Parse(%q, %d) is %s, want %s", s, at, got, want)
	}
	checkReference(t, l, at)
}

// checkWhole fails the test unless all tokens are parsed, as what is shown like this.
func checkWhole(t *testing.T, s, want string) {
	t.Helper()
	checkParsed(t, s, 0, want, len(tokens(s)))
}

// checkError fails the test unless Parse returns this error and this index, for tokens from the first one on.
func checkError(t *testing.T, s string, want api.Errno, end int) {
	t.Helper()
	checkNodes(t, tokens(s), 0, nil, end, want)
	checkReference(t, tokens(s), 0)
}

// checkText fails the test unless Text returns this.
func checkText(t *testing.T, l []api.Node, want string, err api.Errno) {
	t.Helper()
	if s, e := exprs.Text(l); s != want || e != err {
		t.Errorf("Text(%v) is %q, %v, want %q, %v", l, s, e, want, err)
	}
}

// P5.1: the examples of the chapter, with their places and indices.
func TestExamples(t *testing.T) {
	checkNodes(t, tokens("v + 2 * k"), 0, []api.Node{
		{Kind: api.NoValue, At: 0}, {Kind: api.NoNumber, N: 2, At: 4}, {Kind: api.NoKey, At: 8},
		{Kind: api.NoMul, A: 1, B: 2, At: 6}, {Kind: api.NoAdd, A: 0, B: 3, At: 2},
	}, 5, api.OK)
	checkNodes(t, tokens("( v + 2 ) * k"), 0, []api.Node{
		{Kind: api.NoValue, At: 2}, {Kind: api.NoNumber, N: 2, At: 6}, {Kind: api.NoAdd, A: 0, B: 1, At: 4},
		{Kind: api.NoKey, At: 12}, {Kind: api.NoMul, A: 2, B: 3, At: 10},
	}, 7, api.OK)
	checkNodes(t, tokens("not v = 1 and k < 2"), 0, []api.Node{
		{Kind: api.NoValue, At: 2}, {Kind: api.NoNumber, N: 1, At: 6}, {Kind: api.NoEqual, A: 0, B: 1, At: 4}, {Kind: api.NoNot, A: 2, At: 0},
		{Kind: api.NoKey, At: 10}, {Kind: api.NoNumber, N: 2, At: 14}, {Kind: api.NoLess, A: 4, B: 5, At: 12}, {Kind: api.NoAnd, A: 3, B: 6, At: 8},
	}, 8, api.OK)
	checkError(t, "v + )", api.ErrForm, 2)
	checkParsed(t, "v < 1 < 2", 0, "(< v 1)", 3)
	checkWhole(t, "v - k - t", "(- (- v k) t)")
}

// P5.1: what has no parts, with the numbers that digits are.
func TestLeaves(t *testing.T) {
	for s, want := range map[string]api.Node{
		"k": {Kind: api.NoKey}, "t": {Kind: api.NoTime}, "v": {Kind: api.NoValue}, "0": {Kind: api.NoNumber}, "000": {Kind: api.NoNumber},
		"7": {Kind: api.NoNumber, N: 7}, "007": {Kind: api.NoNumber, N: 7}, "9223372036854775807": {Kind: api.NoNumber, N: math.MaxInt64},
		times(500, "0") + "12": {Kind: api.NoNumber, N: 12},
	} {
		checkNodes(t, tokens(s), 0, []api.Node{want}, 1, api.OK)
	}
}

// P5.1: each binary kind by its operator and its name.
func TestBinaries(t *testing.T) {
	kinds := []uint8{api.NoMul, api.NoAdd, api.NoSub, api.NoShl, api.NoShr, api.NoLess, api.NoAtMost, api.NoMore, api.NoLeast, api.NoEqual, api.NoOther, api.NoAnd, api.NoOr}
	for i, operator := range binaries() {
		checkNodes(t, tokens("k "+operator+" t"), 0, []api.Node{{Kind: api.NoKey, At: 0}, {Kind: api.NoTime, At: 4}, {Kind: kinds[i], A: 0, B: 1, At: 2}}, 3, api.OK)
	}
}

// P5.1: any two binary operators: by their lines, and from the left within the same line, in which only one may compare.
func TestPairsOfBinaries(t *testing.T) {
	for _, first := range binaries() {
		for _, second := range binaries() {
			s := "v " + first + " k " + second + " t"
			switch a, b := lineOf(binary(first)), lineOf(binary(second)); {
			case a < b:
				checkWhole(t, s, "("+first+" v ("+second+" k t))")
			case a == 4 && b == 4:
				checkParsed(t, s, 0, "("+first+" v k)", 3)
				checkError(t, "( "+s+" )", api.ErrForm, 4)
				checkWhole(t, "( v "+first+" k ) "+second+" t", "("+second+" ("+first+" v k) t)")
			default:
				checkWhole(t, s, "("+second+" ("+first+" v k) t)")
			}
			checkWhole(t, "v "+first+" ( k "+second+" t )", "("+first+" v ("+second+" k t))")
		}
	}
}

// P5.1: all lines in one expression, from the lowest up and back, and four times the same one.
func TestAllLines(t *testing.T) {
	checkWhole(t, "k or t and not v < 1 << 2 + 3 * - 4", "(or k (and t (not (< v (<< 1 (+ 2 (* 3 (- 4))))))))")
	checkWhole(t, "- 4 * 3 + 2 << 1 < v and t or k", "(or (and (< (<< (+ (* (- 4) 3) 2) 1) v) t) k)")
	checkWhole(t, "1 - 2 + 3 - 4 - 5", "(- (- (+ (- 1 2) 3) 4) 5)")
	checkWhole(t, "1 << 2 >> 3 << 4", "(<< (>> (<< 1 2) 3) 4)")
	checkWhole(t, "1 * 2 * 3 * 4", "(* (* (* 1 2) 3) 4)")
	checkWhole(t, "k and t and v and 1", "(and (and (and k t) v) 1)")
	checkWhole(t, "k or t or v or 1", "(or (or (or k t) v) 1)")
	checkWhole(t, "k and t or v and 1", "(or (and k t) (and v 1))")
	checkWhole(t, "k < t or v >= 1 and 2 != 3", "(or (< k t) (and (>= v 1) (!= 2 3)))")
	checkWhole(t, "1 * 2 + 3 * 4 << 5 * 6 - 7", "(<< (+ (* 1 2) (* 3 4)) (- (* 5 6) 7))")
}

// P5.1: "-" in front, once and more than once, is for what follows in its line.
func TestNegatives(t *testing.T) {
	checkWhole(t, "- v", "(- v)")
	checkWhole(t, "- - - v", "(- (- (- v)))")
	checkWhole(t, "- 5", "(- 5)")
	checkWhole(t, "v - - k", "(- v (- k))")
	checkWhole(t, "v - - - k", "(- v (- (- k)))")
	checkWhole(t, "- ( v + k )", "(- (+ v k))")
	for _, operator := range binaries() {
		checkWhole(t, "- v "+operator+" k", "("+operator+" (- v) k)")
		checkWhole(t, "v "+operator+" - k", "("+operator+" v (- k))")
		checkWhole(t, "- - v "+operator+" - - k", "("+operator+" (- (- v)) (- (- k)))")
	}
	checkNodes(t, tokens("- - v"), 0, []api.Node{{Kind: api.NoValue, At: 4}, {Kind: api.NoNeg, A: 0, At: 2}, {Kind: api.NoNeg, A: 1, At: 0}}, 3, api.OK)
}

// P5.1: "not" in front, once and more than once, is for what follows in its line, and cannot stand in a higher one.
func TestNots(t *testing.T) {
	checkWhole(t, "not v", "(not v)")
	checkWhole(t, "not not not v", "(not (not (not v)))")
	checkWhole(t, "not - v", "(not (- v))")
	checkWhole(t, "- ( not v )", "(- (not v))")
	checkError(t, "- not v", api.ErrForm, 1)
	for _, operator := range binaries() {
		if operator == "and" || operator == "or" {
			checkWhole(t, "not v "+operator+" k", "("+operator+" (not v) k)")
			checkWhole(t, "v "+operator+" not not k", "("+operator+" v (not (not k)))")
			continue
		}
		checkWhole(t, "not v "+operator+" k", "(not ("+operator+" v k))")
		checkWhole(t, "not not v "+operator+" k", "(not (not ("+operator+" v k)))")
		checkError(t, "v "+operator+" not k", api.ErrForm, 2)
		checkWhole(t, "v "+operator+" ( not k )", "("+operator+" v (not k))")
	}
	checkNodes(t, tokens("not not v"), 0, []api.Node{{Kind: api.NoValue, At: 4}, {Kind: api.NoNot, A: 0, At: 2}, {Kind: api.NoNot, A: 1, At: 0}}, 3, api.OK)
}

// P5.1, P5.3: brackets around all of it, and around parts, change nothing but places.
func TestBrackets(t *testing.T) {
	checkWhole(t, "( v )", "v")
	checkWhole(t, "( ( ( 7 ) ) )", "7")
	checkWhole(t, "( v ) + ( ( k ) )", "(+ v k)")
	checkWhole(t, "- ( - ( v ) )", "(- (- v))")
	checkWhole(t, "not ( k or t )", "(not (or k t))")
	checkWhole(t, "( ( k < t ) = ( v or 1 ) )", "(= (< k t) (or v 1))")
	for _, s := range []string{"v", "v + 2 * k", "not v = 1 and k < 2", "- v << 2", "k - t - v"} {
		inner, n, _ := exprs.Parse(tokens(s), 0)
		for depth := range 20 {
			outer, end, e := exprs.Parse(tokens(times(depth, "( ")+s+times(depth, " )")), 0)
			if is, err := nodes.Same(inner, outer); e != api.OK || err != api.OK || !is || end != n+2*depth {
				t.Errorf("%q in %d brackets is %v, %d, %v, want %v", s, depth, outer, end, e, inner)
			}
		}
	}
}

// P5.1: from an index on, up to a token that does not belong to it.
func TestParsedFromTo(t *testing.T) {
	checkParsed(t, "where v = 3 window", 1, "(= v 3)", 4)
	checkParsed(t, "v + 2 * k", 2, "(* 2 k)", 5)
	checkParsed(t, "v + 2 * k", 4, "k", 5)
	checkParsed(t, "v - - k", 1, "(- (- k))", 4)
	checkParsed(t, "v - - k", 2, "(- k)", 4)
	checkParsed(t, "( v + k )", 1, "(+ v k)", 4)
	checkParsed(t, "v k", 0, "v", 1)
	checkParsed(t, "v 7", 0, "v", 1)
	checkParsed(t, "v not k", 0, "v", 1)
	checkParsed(t, "v ( k )", 0, "v", 1)
	checkParsed(t, "( v ) ( k )", 0, "v", 3)
	checkParsed(t, "v + k )", 0, "(+ v k)", 3)
	checkParsed(t, "( v ) )", 0, "v", 3)
	checkParsed(t, "not v = 1 = k", 0, "(not (= v 1))", 4)
	checkParsed(t, "v and k < 1 < t or 2", 0, "(and v (< k 1))", 5)
	for _, text := range without(allTexts(), strings.Join(binaries(), " ")) {
		checkParsed(t, "v "+text, 0, "v", 1)
		checkParsed(t, "select v + k "+text+" * *", 1, "(+ v k)", 4)
		if text != ")" {
			checkError(t, "( v "+text, api.ErrForm, 2)
			checkError(t, "( ( v + k ) "+text+" )", api.ErrForm, 6)
		}
	}
}

// P5.1: the first token that cannot stand there, wherever something has to be.
func TestNotThere(t *testing.T) {
	for _, text := range without(allTexts(), "k t v 0 7 007 9223372036854775807 ( - not") {
		checkError(t, text, api.ErrForm, 0)
		checkError(t, text+" v", api.ErrForm, 0)
		checkError(t, "( "+text+" )", api.ErrForm, 1)
		checkError(t, "- "+text+" v", api.ErrForm, 1)
		checkError(t, "not "+text, api.ErrForm, 1)
		for _, operator := range binaries() {
			checkError(t, "v "+operator+" "+text, api.ErrForm, 2)
			checkError(t, "k * ( v "+operator+" "+text+" )", api.ErrForm, 5)
		}
	}
	checkError(t, "v + ( k * )", api.ErrForm, 5)
	checkError(t, "( v + k ) * ( ) )", api.ErrForm, 7)
	checkError(t, "v + k + *", api.ErrForm, 4)
	checkError(t, "v and k < 1 and < 2", api.ErrForm, 6)
	checkError(t, "( v < 1 < 2 )", api.ErrForm, 4)
	checkError(t, "( 1 2 )", api.ErrForm, 2)
}

// P5.1: where something has to be behind the last token, the index is how many there are.
func TestNothingThere(t *testing.T) {
	checkNodes(t, nil, 0, nil, 0, api.ErrForm)
	checkNodes(t, []api.Token{}, 0, nil, 0, api.ErrForm)
	for _, s := range []string{"(", "-", "not", "- -", "not not", "not -", "( (", "( v", "( v + k", "( ( v )", "- (", "- ( v", "v * ( k"} {
		checkError(t, s, api.ErrForm, len(tokens(s)))
	}
	for _, operator := range binaries() {
		checkError(t, "v "+operator, api.ErrForm, 2)
		checkError(t, "v "+operator+" ( k "+operator, api.ErrForm, 5)
	}
	for _, s := range []string{"v", "v + k", "( v )", "where v = 3 window"} {
		l := tokens(s)
		checkNodes(t, l, len(l), nil, len(l), api.ErrForm)
	}
	// What is behind the length of a slice is not read.
	l := tokens("( v + k )")
	checkNodes(t, l[:4], 0, nil, 4, api.ErrForm)
	checkNodes(t, l[:3], 1, nil, 3, api.ErrForm)
	checkNodes(t, l[:0], 0, nil, 0, api.ErrForm)
}

// P5.1: an index below 0 or above how many tokens there are.
func TestNoSuchIndex(t *testing.T) {
	for _, s := range []string{"", "v", "v + k", "( v", times(200, "v ")} {
		l := tokens(s)
		for _, at := range []int{-1, -2, len(l) + 1, len(l) + 2, 401, math.MaxInt, math.MinInt} {
			checkNodes(t, l, at, nil, 0, api.ErrArg)
			checkNodes(t, append(l, token("v", 0))[:len(l)], at, nil, 0, api.ErrArg)
		}
	}
}

// P5.1: tokens that are not valid, anywhere, ahead of an index that is not right and of what cannot stand there.
func TestNotValid(t *testing.T) {
	for _, wrong := range []api.Token{
		{}, {Kind: 1}, {Kind: 2}, {Kind: 3}, {Text: "v"}, {Kind: 4, Text: "v"}, {Kind: 255, Text: "v"},
		{Kind: 1, Text: "v"}, {Kind: 3, Text: "v"}, {Kind: 3, Text: "and"}, {Kind: 2, Text: "7"}, {Kind: 3, Text: "7"}, {Kind: 1, Text: "+"}, {Kind: 2, Text: "+"},
		{Kind: 1, Text: "9223372036854775808"}, {Kind: 1, Text: "-1"}, {Kind: 1, Text: "1 "}, {Kind: 1, Text: "1a"}, {Kind: 1, Text: times(30, "9")},
		{Kind: 2, Text: "x"}, {Kind: 2, Text: "V"}, {Kind: 2, Text: "vv"}, {Kind: 2, Text: "v "}, {Kind: 3, Text: "!"}, {Kind: 3, Text: "=="}, {Kind: 3, Text: "( "}, {Kind: 3, Text: "<<<"},
	} {
		checkNotValid(t, wrong)
	}
	for _, at := range []int{-1, -2, 401, 402, 1 << 32, math.MaxInt, math.MinInt} {
		for _, text := range []string{"v", "7", "+", "(", "select"} {
			checkNotValid(t, token(text, at))
		}
	}
}

// checkNotValid fails the test unless Parse returns ErrBad for tokens among which is this one.
func checkNotValid(t *testing.T, wrong api.Token) {
	t.Helper()
	for _, s := range []string{"", "v", "v + k", "* )", "v k t", times(199, "v ")} {
		for i := range len(tokens(s)) + 1 {
			l := slices.Insert(tokens(s), i, wrong)
			for _, at := range []int{0, 1, len(l), -1, len(l) + 1} {
				checkNodes(t, l, at, nil, 0, api.ErrBad)
			}
		}
	}
}

// P5.1: the places from 0 to 400 are right, in any order, and those of the nodes are those of their tokens.
func TestPlaces(t *testing.T) {
	for _, place := range []int{0, 1, 399, 400} {
		for i := range 4 {
			l := tokens("- v < 7 window")
			l[i].At = place
			checkReference(t, l, 0)
		}
		checkNodes(t, []api.Token{token("v", place)}, 0, []api.Node{{Kind: api.NoValue, At: place}}, 1, api.OK)
		checkNodes(t, []api.Token{token("-", place), token("7", 400-place)}, 0, []api.Node{{Kind: api.NoNumber, N: 7, At: 400 - place}, {Kind: api.NoNeg, At: place}}, 2, api.OK)
	}
	l := []api.Token{token("(", 400), token("v", 300), token("=", 200), token("k", 200), token(")", 0)}
	checkNodes(t, l, 0, []api.Node{{Kind: api.NoValue, At: 300}, {Kind: api.NoKey, At: 200}, {Kind: api.NoEqual, B: 1, At: 200}}, 5, api.OK)
}

// P5.1: 200 tokens are read, and 201 are ErrMany ahead of all else.
func TestMostTokens(t *testing.T) {
	checkWhole(t, times(99, "( ")+"- v "+times(99, ") "), "(- v)")
	checkParsed(t, times(200, "v "), 0, "v", 1)
	checkParsed(t, times(200, "v "), 199, "v", 200)
	checkParsed(t, times(197, ") ")+"v + k", 197, "(+ v k)", 200)
	checkError(t, times(200, "( "), api.ErrForm, 200)
	checkError(t, times(200, "- "), api.ErrForm, 200)
	checkError(t, times(199, "not ")+")", api.ErrForm, 199)
	checkError(t, times(199, "( ")+"v", api.ErrForm, 200)
	for _, s := range []string{times(201, "v "), times(100, "( ") + "v " + times(100, ") "), times(201, "( "), times(1000, "- "), times(201, ") ")} {
		l := tokens(s)
		wrong := slices.Clone(l)
		wrong[0] = api.Token{Kind: 9, Text: "x", At: -1}
		for _, at := range []int{0, 1, 200, len(l), -1, len(l) + 1} {
			checkNodes(t, l, at, nil, 0, api.ErrMany)
			checkNodes(t, wrong, at, nil, 0, api.ErrMany)
		}
	}
	checkNodes(t, append(tokens(times(200, "v ")), api.Token{}), 0, nil, 0, api.ErrMany)
}

// P5.1: a token of more bytes than a text has, and tokens of more bytes together, are valid.
func TestLongTokens(t *testing.T) {
	long := times(1<<16, "0") + "5"
	checkNodes(t, tokens(long+" + "+long), 0, []api.Node{{Kind: api.NoNumber, N: 5}, {Kind: api.NoNumber, N: 5, At: 4}, {Kind: api.NoAdd, B: 1, At: 2}}, 3, api.OK)
	checkParsed(t, "v "+times(199, "select "), 0, "v", 1)
}

// P5.1: the depth 20 is not too deep; ErrDeep comes with the token of the first node that is deeper.
func TestDeepest(t *testing.T) {
	for _, prefix := range []string{"- ", "not "} {
		checkWhole(t, times(19, prefix)+"v", times(19, "("+prefix)+"v"+times(19, ")"))
		checkError(t, times(20, prefix)+"v", api.ErrDeep, 0)
		checkError(t, times(25, prefix)+"v", api.ErrDeep, 5)
		checkError(t, times(199, prefix)+"v", api.ErrDeep, 179)
		checkError(t, times(25, prefix+"( ")+"v"+times(25, " )"), api.ErrDeep, 10)
	}
	checkWhole(t, times(19, "v - ( ")+"k"+times(19, " )"), times(19, "(- v ")+"k"+times(19, ")"))
	checkError(t, times(20, "v - ( ")+"k"+times(20, " )"), api.ErrDeep, 1)
	checkError(t, times(22, "v - ( ")+"k"+times(22, " )"), api.ErrDeep, 7)
	for _, operator := range without(binaries(), "< <= > >= = !=") {
		checkWhole(t, "v"+times(19, " "+operator+" 3"), times(19, "("+operator+" ")+"v"+times(19, " 3)"))
		checkError(t, "v"+times(20, " "+operator+" 3"), api.ErrDeep, 39)
		checkError(t, "v"+times(99, " "+operator+" 3"), api.ErrDeep, 39)
	}
	checkWhole(t, "v + "+times(18, "- ")+"k", "(+ v "+times(18, "(- ")+"k"+times(19, ")"))
	checkError(t, "v + "+times(19, "- ")+"k", api.ErrDeep, 1)
	checkError(t, times(19, "- ")+"k + v", api.ErrDeep, 20)
	checkError(t, "t = ( "+times(20, "not ")+"k ) and v", api.ErrDeep, 3)
}

// P5.1: of a node that is too deep and a token that cannot stand there the one that is met first counts.
func TestDeepOrNotThere(t *testing.T) {
	checkError(t, times(20, "- ")+"v *", api.ErrDeep, 0)
	checkError(t, "( "+times(20, "- ")+"v v", api.ErrDeep, 1)
	checkError(t, times(20, "not ")+"v and", api.ErrDeep, 0)
	checkError(t, times(20, "not ")+"v +", api.ErrForm, 22)
	checkError(t, times(20, "not ")+"v < )", api.ErrForm, 22)
	checkError(t, times(20, "- "), api.ErrForm, 20)
	checkError(t, times(20, "- ")+"( v", api.ErrForm, 22)
	checkError(t, times(19, "- ")+"v + )", api.ErrForm, 21)
	checkError(t, times(19, "- ")+"v + k )", api.ErrDeep, 20)
	checkError(t, times(19, "- ")+"v + ( k v", api.ErrForm, 23)
	checkError(t, times(19, "- ")+"v + k *", api.ErrForm, 23)
	checkError(t, "v"+times(20, " + 3")+" + +", api.ErrDeep, 39)
	checkError(t, "v"+times(19, " + 3")+" + +", api.ErrForm, 40)
	checkError(t, times(20, "v - ( ")+"k"+times(18, " )")+" ( )", api.ErrForm, 79)
	checkError(t, times(21, "v - ( ")+"k"+times(20, " )")+" (", api.ErrDeep, 4)
}

// groups returns a sum of 60 - 1 nodes: six products of five numbers.
func groups() string { return "1 * 2 * 3 * 4 * 5" + times(5, " + 1 * 2 * 3 * 4 * 5") }

// P5.1: 60 nodes are not too many; ErrMany comes with the token of the first node whose expression has more.
func TestMostNodes(t *testing.T) {
	sum, few := groups(), len(tokens(groups()))
	if few != 59 {
		t.Fatalf("the sum has %d nodes", few)
	}
	for s, end := range map[string]int{sum: 59, "- ( " + sum + " )": 62, "not " + sum: 60, "( ( " + sum + " ) )": 63} {
		if l, n, e := exprs.Parse(tokens(s), 0); e != api.OK || n != end || len(l) != 59 && len(l) != 60 {
			t.Errorf("Parse(%q) is %v, %d, %v", s, l, n, e)
		}
		checkReference(t, tokens(s), 0)
	}
	checkError(t, "- - ( "+sum+" )", api.ErrMany, 0)
	checkError(t, "- - - ( "+sum+" )", api.ErrMany, 1)
	checkError(t, "not not "+sum, api.ErrMany, 0)
	checkError(t, "not not not "+sum, api.ErrMany, 1)
	checkError(t, sum+" + 7", api.ErrMany, 59)
	checkError(t, sum+" << k", api.ErrMany, 59)
	checkError(t, "k << "+sum, api.ErrMany, 1)
	checkError(t, sum+" = v + 7", api.ErrMany, 59)
	checkError(t, sum+" + 1 * 2", api.ErrMany, 59)
	checkError(t, sum+" and 7 < k or v", api.ErrMany, 59)
	checkError(t, "k or v and "+sum, api.ErrMany, 3)
	checkError(t, "( "+sum+" ) * ( "+sum+" )", api.ErrMany, 61)
	checkError(t, "( k - ( "+sum+" ) ) * v", api.ErrMany, 2)
	checkError(t, "- ( "+sum+" ) * v", api.ErrMany, 62)
}

// P5.1: of a node with too many nodes and what else is wrong the one that is met first counts.
func TestManyOrElse(t *testing.T) {
	sum := groups()
	checkError(t, "k << "+sum+" )", api.ErrMany, 1)
	checkError(t, "k << "+sum+" and", api.ErrMany, 1)
	checkError(t, "( k << "+sum, api.ErrMany, 2)
	checkError(t, "k << "+sum+" + )", api.ErrForm, 62)
	checkError(t, "k * ( "+sum, api.ErrForm, 62)
	checkError(t, "( "+sum+" ) * ( "+sum, api.ErrForm, 122)
	checkError(t, "( "+sum+" ) * ( "+sum+" ) *", api.ErrMany, 61)
	checkError(t, "( "+sum+" ) * ( "+sum+" * )", api.ErrForm, 123)
	checkError(t, "( "+sum+" ) - "+times(20, "- ")+"v", api.ErrDeep, 62)
	checkError(t, times(20, "- ")+"v - ( "+sum+" )", api.ErrDeep, 0)
	// A node for which both are wrong is ErrMany.
	checkError(t, "( "+sum+" ) - "+times(19, "- ")+"v", api.ErrMany, 61)
}

// shortLists calls a function with all lists of so many of some texts.
func shortLists(texts []string, n int, call func([]api.Token)) {
	l := make([]api.Token, n)
	var fill func(int)
	fill = func(i int) {
		if i == n {
			call(l)
			return
		}
		for _, text := range texts {
			l[i] = token(text, 5*i)
			fill(i + 1)
		}
	}
	fill(0)
}

// P5.1: all short lists of some tokens of each kind, and from each index on, told by the reference.
func TestShortLists(t *testing.T) {
	texts := strings.Fields("v 7 - * + << < = not and or ( )")
	for n := range 6 {
		shortLists(texts, n, func(l []api.Token) { checkReference(t, l, 0) })
	}
	for n := range 4 {
		shortLists(allTexts(), n, func(l []api.Token) {
			for at := range n + 1 {
				checkReference(t, l, at)
			}
		})
	}
}

// P5.1: lists of any tokens, of which most may stand there, told by the reference.
func TestAnyLists(t *testing.T) {
	r := rand.New(rand.NewSource(1))
	ways := [][2][]string{
		{strings.Fields("k t v 7 9 ( ( - not"), append(binaries(), ")", ")", ")", "*", "+", "-")},
		{strings.Fields("v 7 " + times(30, "- ")), binaries()},
		{strings.Fields("v ( " + times(30, "not ")), strings.Fields("and or < )")},
		{strings.Fields("k t v 7 9"), strings.Fields("* + - << and or")},
		{strings.Fields("v 7 ( ( ("), strings.Fields("* + - << < and or ) ) ) ) ) ) ) )")},
	}
	found := map[api.Errno]int{}
	for i := range 30000 {
		var l []api.Token
		operand := true
		for range r.Intn(201) {
			from := ways[i%len(ways)][1]
			if operand {
				from = ways[i%len(ways)][0]
			}
			if r.Intn(150) == 0 {
				from = allTexts()
			}
			text := from[r.Intn(len(from))]
			operand = text == "(" || text == "-" || text == "not" || binary(text) > 0
			l = append(l, token(text, r.Intn(401)))
		}
		at := r.Intn(len(l) + 1)
		checkReference(t, l, at)
		_, _, e := reference(l, at)
		found[e]++
	}
	if found[api.OK] < 1000 || found[api.ErrForm] < 1000 || found[api.ErrDeep] < 1000 || found[api.ErrMany] < 100 {
		t.Errorf("results are %v", found)
	}
}

// randomTree returns a tree of so many nodes of any kinds and numbers; many of its parts have all nodes but a few.
func randomTree(r *rand.Rand, n int) *tree {
	switch {
	case n == 1 && r.Intn(2) == 0:
		return made(1, r.Int63()>>r.Intn(63), 0)
	case n == 1:
		return made(uint8(2+r.Intn(3)), 0, 0)
	case n == 2 || r.Intn(5) == 0:
		return made(uint8(5+r.Intn(2)), 0, 0, randomTree(r, n-1))
	}
	first := 1 + r.Intn(n-2)
	switch r.Intn(5) {
	case 0, 1:
		first = min(first, 2)
	case 2, 3:
		first = max(first, n-3)
	}
	return made(uint8(7+r.Intn(13)), 0, 0, randomTree(r, first), randomTree(r, n-1-first))
}

// write returns texts with those of a tree behind them, and notes the tokens of its nodes: with brackets where it has to have them, and at times where not.
func (whole *tree) write(r *rand.Rand, front []string, least int) []string {
	line := lineOf(whole.kind)
	if line < least || r.Intn(12) == 0 {
		return append(whole.write(r, append(front, "("), 1), ")")
	}
	first, last := line, line
	if line == 4 {
		first = 5
	}
	if len(whole.parts) == 2 {
		front = whole.parts[0].write(r, front, first)
		last = line + 1
	}
	whole.token = len(front)
	front = append(front, sign(whole.kind, whole.n))
	if len(whole.parts) > 0 {
		front = whole.parts[len(whole.parts)-1].write(r, front, last)
	}
	return front
}

// P5.1: expressions of all sizes up to 70 nodes, with any brackets: those that are right are parsed as they were, all of them.
func TestRandomTrees(t *testing.T) {
	r := rand.New(rand.NewSource(2))
	found := map[api.Errno]int{}
	for i := range 20000 {
		whole := randomTree(r, 1+i%70)
		var l []api.Token
		for _, text := range whole.write(r, nil, 1) {
			l = append(l, token(text, r.Intn(401)))
		}
		if len(l) > 200 {
			continue
		}
		checkReference(t, l, 0)
		want, end, e := reference(l, 0)
		found[e]++
		if (e == api.OK) != (whole.size <= 60 && whole.depth <= 20) || e == api.OK && (end != len(l) || !slices.Equal(want, whole.behind(nil, l))) {
			t.Fatalf("%v is %v, %d, %v, and was %s", l, want, end, e, whole.shown())
		}
	}
	if found[api.OK] < 10000 || found[api.ErrMany] < 100 || found[api.ErrDeep] < 100 {
		t.Errorf("results are %v", found)
	}
}

// one returns the expression of a node with parts that have none themselves.
func one(kind uint8) []api.Node {
	switch {
	case kind >= 7:
		return []api.Node{{Kind: 4}, {Kind: 2}, {Kind: kind, A: 0, B: 1}}
	case kind >= 5:
		return []api.Node{{Kind: 4}, {Kind: kind, A: 0}}
	}
	return []api.Node{{Kind: kind}}
}

// P5.2: the texts of all kinds of nodes, and of numbers.
func TestTextOfKinds(t *testing.T) {
	for kind, want := range map[uint8]string{api.NoNumber: "0", api.NoKey: "k", api.NoTime: "t", api.NoValue: "v", api.NoNeg: "- v", api.NoNot: "not v"} {
		checkText(t, one(kind), want, api.OK)
	}
	for i, operator := range binaries() {
		checkText(t, one(uint8(7+i)), "v "+operator+" k", api.OK)
	}
	for _, n := range []int64{1, 7, 10, 400, 1 << 40, math.MaxInt64} {
		checkText(t, []api.Node{{Kind: 1, N: n, At: 400}}, strconv.FormatInt(n, 10), api.OK)
	}
}

// P5.2: parts that have parts themselves, and they alone, are in brackets, for all kinds in all places.
func TestTextOfParts(t *testing.T) {
	for kind := uint8(1); kind <= 19; kind++ {
		part, text := one(kind), ""
		switch {
		case kind >= 7:
			text = "(v " + sign(kind, 0) + " k)"
		case kind >= 5:
			text = "(" + sign(kind, 0) + " v)"
		default:
			text = sign(kind, 0)
		}
		for outer := uint8(5); outer <= 19; outer++ {
			if outer <= 6 {
				x, _ := nodes.Node(outer, 0, 3, part)
				checkText(t, x, sign(outer, 0)+" "+text, api.OK)
				continue
			}
			x, _ := nodes.Node(outer, 0, 3, part, one(3))
			checkText(t, x, text+" "+sign(outer, 0)+" t", api.OK)
			x, _ = nodes.Node(outer, 0, 3, one(3), part)
			checkText(t, x, "t "+sign(outer, 0)+" "+text, api.OK)
			x, _ = nodes.Node(outer, 0, 3, part, part)
			checkText(t, x, text+" "+sign(outer, 0)+" "+text, api.OK)
		}
	}
}

// P5.2: texts of expressions that are parsed.
func TestTextOfParsed(t *testing.T) {
	for s, want := range map[string]string{
		"v + 1 * 2":             "v + (1 * 2)",
		"( v + 1 ) * 2":         "(v + 1) * 2",
		"- v << 2":              "(- v) << 2",
		"- - - 5":               "- (- (- 5))",
		"not not k = 1 or t":    "(not (not (k = 1))) or t",
		"k - t - v":             "(k - t) - v",
		"k - ( t - v )":         "k - (t - v)",
		"( ( 007 ) )":           "7",
		"k and t or v < 1 >> 2": "(k and t) or (v < (1 >> 2))",
	} {
		l, _, _ := exprs.Parse(tokens(s), 0)
		checkText(t, l, want, api.OK)
	}
}

// P5.2: the error of nodes.Check, and no text.
func TestTextErrors(t *testing.T) {
	checkText(t, nil, "", api.ErrBad)
	checkText(t, []api.Node{}, "", api.ErrBad)
	for _, l := range [][]api.Node{
		{{}}, {{Kind: 20}}, {{Kind: 255}}, {{Kind: 5}}, {{Kind: 7}}, {{Kind: 4}, {Kind: 7}}, {{Kind: 4}, {Kind: 2}}, {{Kind: 4, N: 1}}, {{Kind: 1, N: -1}}, {{Kind: 4, At: -1}}, {{Kind: 4, At: 401}}, {{Kind: 4, A: 1}},
		{{Kind: 4}, {Kind: 2}, {Kind: 8, A: 1, B: 0}}, {{Kind: 4}, {Kind: 2}, {Kind: 8, A: 0, B: 2}}, {{Kind: 4}, {Kind: 2}, {Kind: 8, A: -1, B: 1}}, {{Kind: 5, A: 0}}, {{Kind: 5, A: 1}, {Kind: 4}},
		{{Kind: 4}, {Kind: 5, A: math.MaxInt}}, {{Kind: 4}, {Kind: 5, A: math.MinInt}},
	} {
		checkText(t, l, "", api.ErrBad)
	}
	l := one(4)
	for i := range 60 {
		if i == 20 {
			checkText(t, l, "", api.ErrDeep)
		}
		l = append(l, api.Node{Kind: 5, A: i})
	}
	checkText(t, l[:20], times(18, "- (")+"- v"+times(18, ")"), api.OK)
	checkText(t, l[:60], "", api.ErrDeep)
	checkText(t, l, "", api.ErrMany)
	checkText(t, make([]api.Node, 61), "", api.ErrMany)
	checkText(t, l[:2:3], "- v", api.OK)
}

// P5.3: the tokens of the text of an expression are parsed as the same expression, all of them, and as many are no brackets as there are nodes.
func TestWrittenIsRead(t *testing.T) {
	r := rand.New(rand.NewSource(3))
	read := 0
	for i := range 5000 {
		whole := randomTree(r, 1+i%60)
		l := whole.behind(nil, []api.Token{token("v", r.Intn(401))})
		s, e := exprs.Text(l)
		if (e == api.OK) != (whole.depth <= 20) {
			t.Fatalf("Text(%v) is %q, %v", l, s, e)
		}
		if e != api.OK || len(s) > 400 {
			continue
		}
		read++
		all, _, e := lexer.All(s)
		x, n, err := exprs.Parse(all, 0)
		if is, _ := nodes.Same(l, x); e != api.OK || err != api.OK || n != len(all) || !is {
			t.Errorf("%q is %v, %d, %v, want %v", s, x, n, err, l)
		}
		checkTokensOfNodes(t, all, x)
		if again, e := exprs.Text(x); again != s || e != api.OK {
			t.Errorf("%q is read, and then written %q, %v", s, again, e)
		}
	}
	if read < 2000 {
		t.Errorf("only %d were read", read)
	}
}

// checkTokensOfNodes fails the test unless each token is that of one node, told by the places and the texts, or a bracket.
func checkTokensOfNodes(t *testing.T, l []api.Token, x []api.Node) {
	t.Helper()
	left := map[int]string{}
	for _, token := range l {
		if token.Text != "(" && token.Text != ")" {
			left[token.At] = token.Text
		}
	}
	if len(left) != len(x) {
		t.Errorf("%v has %d tokens that are no brackets, and %d nodes", l, len(left), len(x))
	}
	for _, node := range x {
		if left[node.At] != sign(node.Kind, node.N) {
			t.Errorf("%v of %v is at %q", node, x, left[node.At])
		}
		delete(left, node.At)
	}
}

// P1 (R2): arguments are not changed, the memory behind the length of a slice among them.
func TestArgumentsStay(t *testing.T) {
	l := tokens("select - ( v + 2 ) * k < not")
	for n := range len(l) + 1 {
		given := slices.Clone(l)
		for at := range n + 1 {
			exprs.Parse(given[:n], at)
		}
		if !slices.Equal(given, l) {
			t.Errorf("Parse of %d tokens changed them to %v", n, given)
		}
	}
	x, _, _ := exprs.Parse(l, 1)
	for n := range len(x) + 1 {
		given := slices.Clone(x)
		exprs.Text(given[:n])
		if !slices.Equal(given, x) {
			t.Errorf("Text of %d nodes changed them to %v", n, given)
		}
	}
}

// P1 (R2): a result that is changed, or appended to, changes none that is returned later.
func TestResultsAreNew(t *testing.T) {
	l := tokens("- v + 2 * k")
	for at := range len(l) {
		want, end, _ := exprs.Parse(l, at)
		if want == nil {
			continue
		}
		kept := slices.Clone(want)
		for i := range want {
			want[i] = api.Node{Kind: 99}
		}
		_ = append(want[:1], api.Node{Kind: 98}, api.Node{Kind: 97})
		checkNodes(t, l, at, kept, end, api.OK)
	}
}

// P1 (R7): each call ends, whatever the arguments are.
func TestAnyArguments(t *testing.T) {
	r := rand.New(rand.NewSource(4))
	numbers := []int{-1, 0, 1, 2, 3, 59, 400, 401, math.MaxInt, math.MinInt}
	for range 20000 {
		l := make([]api.Token, r.Intn(6))
		for i := range l {
			l[i] = api.Token{Kind: uint8(r.Intn(5)), Text: append(allTexts(), "", "x", "!", "\xff")[r.Intn(46)], At: numbers[r.Intn(len(numbers)-r.Intn(8))]}
		}
		if x, _, e := exprs.Parse(l, numbers[r.Intn(len(numbers))]); (e == api.OK) != (nodes.Check(x) == api.OK) {
			t.Fatalf("Parse(%v) is %v, %v", l, x, e)
		}
		x := make([]api.Node, r.Intn(6))
		for i := range x {
			x[i] = api.Node{Kind: uint8(r.Intn(22)), N: int64(numbers[r.Intn(len(numbers))]), A: numbers[r.Intn(len(numbers))], B: numbers[r.Intn(len(numbers))], At: numbers[r.Intn(4)]}
		}
		if s, e := exprs.Text(x); e != nodes.Check(x) || (e == api.OK) != (s != "") {
			t.Fatalf("Text(%v) is %q, %v", x, s, e)
		}
	}
}
