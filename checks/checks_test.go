package checks_test

import (
	"math"
	"math/rand"
	"slices"
	"strings"
	"testing"

	"tailwater/api"
	"tailwater/checks"
	"tailwater/clauses"
	"tailwater/exprs"
	"tailwater/lexer"
	"tailwater/nodes"
	"tailwater/parser"
)

// tumble, slide and session return windows.
func tumble(size int64) api.Window { return api.Window{Kind: api.WiTumble, Size: size} }
func slide(size, every int64) api.Window {
	return api.Window{Kind: api.WiSlide, Size: size, Every: every}
}
func session(size int64) api.Window { return api.Window{Kind: api.WiSession, Size: size} }

// places returns a function of places from one on, by a distance: none of 60 of them is there twice.
func places(from, by int) func() int {
	at := from - by
	return func() int {
		at = (at + by + 401) % 401
		return at
	}
}

// argumentPlaces and conditionPlaces are places that no argument and condition have in common, neither those of indices nor in their order.
func argumentPlaces() func() int  { return places(182, -3) }
func conditionPlaces() func() int { return places(218, 3) }

// numbers are trees of typed numbers of each kind, of 60 nodes and of the depth 20 among them.
func numbers() []*tree {
	l := []*tree{
		leaf(api.NoNumber), {kind: api.NoNumber, n: math.MaxInt64}, leaf(api.NoKey), leaf(api.NoTime), leaf(api.NoValue),
		one(api.NoNeg, number()), chain(api.NoNeg, 19, leaf(api.NoNumber)), chain(api.NoNeg, 13, two(api.NoSub, sums(16), sums(8))),
		two(api.NoMul, two(api.NoAdd, leaf(api.NoTime), number()), one(api.NoNeg, leaf(api.NoKey))),
	}
	for kind := api.NoMul; kind <= api.NoShr; kind++ {
		l = append(l, two(kind, number(), leaf(api.NoKey)))
	}
	return l
}

// truths are trees of typed truth values of each kind, of 60 nodes and of the depth 20 among them.
func truths() []*tree {
	l := []*tree{one(api.NoNot, truth()), chain(api.NoNot, 18, truth()), chain(api.NoNot, 13, two(api.NoLeast, sums(16), sums(8)))}
	for kind := api.NoLess; kind <= api.NoOther; kind++ {
		l = append(l, two(kind, number(), leaf(api.NoNumber)))
	}
	for kind := api.NoEqual; kind <= api.NoOr; kind++ {
		l = append(l, two(kind, truth(), truth()), two(kind, one(api.NoNot, truth()), truth()))
	}
	return l
}

// misfits are trees that are not typed: their wholes are numbers and truth values, and fit or not.
func misfits() []*tree {
	l := []*tree{
		one(api.NoNeg, truth()), one(api.NoNot, number()), chain(api.NoNeg, 17, one(api.NoNot, number())), chain(api.NoNot, 17, one(api.NoNeg, truth())),
		two(api.NoAdd, number(), one(api.NoNot, number())), two(api.NoLess, one(api.NoNeg, truth()), number()),
		two(api.NoAnd, two(api.NoOr, number(), truth()), one(api.NoNot, number())), two(api.NoMul, two(api.NoAdd, number(), truth()), two(api.NoSub, truth(), number())),
	}
	for kind := api.NoMul; kind <= api.NoOr; kind++ {
		l = append(l, two(kind, number(), truth()), two(kind, truth(), number()))
	}
	return l
}

// all are trees of all of these.
func all() []*tree { return slices.Concat(numbers(), truths(), misfits()) }

// rests are queries that are valid with an argument and a condition: each aggregate but the count, and each kind of sources, windows, keys and late records.
func rests() []api.Query {
	var l []api.Query
	for i, q := range []api.Query{
		{Sources: []int{0}, Window: tumble(1)},
		{Sources: []int{3, 1}, Window: slide(16, 1)},
		{Sources: []int{2, 0, 3, 1}, Window: session(1 << 30)},
		{Sources: []int{1, 2}, Join: true, Window: tumble(60)},
	} {
		for agg := api.AgSum; agg <= api.AgMax; agg++ {
			q.Agg, q.ByKey, q.Late = agg, (int(agg)+i)%2 == 0, api.LaDrop+uint8(i/2)
			l = append(l, q)
		}
	}
	return l
}

// query returns a query with an argument, or as a count, if there is none, and with a condition, or without one.
func query(rest api.Query, arg, where *tree) api.Query {
	rest.Arg, rest.Where = arg.list(), where.list()
	if arg == nil {
		rest.Agg = api.AgCount
	}
	return rest
}

// placed returns trees at places that they do not have in common, or none for none.
func placed(arg, where *tree) (*tree, *tree) {
	if arg != nil {
		arg = arg.copied(argumentPlaces())
	}
	if where != nil {
		where = where.copied(conditionPlaces())
	}
	return arg, where
}

// equal reports whether two queries are equal, the places of their nodes among all else.
func equal(p, q api.Query) bool {
	return p.Agg == q.Agg && slices.Equal(p.Arg, q.Arg) && slices.Equal(p.Sources, q.Sources) && p.Join == q.Join &&
		slices.Equal(p.Where, q.Where) && p.Window == q.Window && p.ByKey == q.ByKey && p.Late == q.Late
}

// checkQuery fails the test unless Check returns this.
func checkQuery(t *testing.T, q api.Query, at int, want api.Errno) {
	t.Helper()
	if n, e := checks.Check(q); n != at || e != want {
		t.Errorf("Check(%v) is %d, %v, want %d, %v", q, n, e, at, want)
	}
}

// checkTrees fails the test unless Check returns what the trees of a valid query say.
func checkTrees(t *testing.T, rest api.Query, arg, where *tree) {
	t.Helper()
	at, e := verdictOf(arg, where)
	checkQuery(t, query(rest, arg, where), at, e)
}

// checkCompiled fails the test unless a text is compiled to this query.
func checkCompiled(t *testing.T, s string, want api.Query) {
	t.Helper()
	if q, n, e := checks.Compile(s); !equal(q, want) || n != len(s) || e != api.OK {
		t.Errorf("Compile(%q) is %v, %d, %v, want %v, %d", s, q, n, e, want, len(s))
	}
	checkQuery(t, want, 0, api.OK)
}

// checkError fails the test unless a text has this error, at this place, and no query.
func checkError(t *testing.T, s string, want api.Errno, at int) {
	t.Helper()
	if q, n, e := checks.Compile(s); !equal(q, api.Query{}) || n != at || e != want {
		t.Errorf("Compile(%q) is %v, %d, %v, want %v at %d", s, q, n, e, want, at)
	}
	if want == api.ErrType && (at < 0 || at >= len(s)) {
		t.Errorf("%d is not in the text %q", at, s)
	}
}

// checkAt fails the test unless a text has this error where "#" stands, which is no part of it; and Check the same, if the text is one of a query.
func checkAt(t *testing.T, s string, want api.Errno) {
	t.Helper()
	at := strings.IndexByte(s, '#')
	if at < 0 {
		t.Fatalf("%q has no place", s)
	}
	s = s[:at] + s[at+1:]
	checkError(t, s, want, at)
	if q, _, e := parser.Parse(s); e == api.OK {
		checkQuery(t, q, at, want)
	} else if want == api.ErrType {
		t.Errorf("%q is no query: %v", s, e)
	}
}

// checkReference fails the test unless Compile returns the query of a text, if its trees are right, or what is wrong first; it returns its error.
func checkReference(t *testing.T, s string) api.Errno {
	t.Helper()
	q, at, e := parser.Parse(s)
	if e == api.OK {
		at, e = verdictOf(treeOf(q.Arg), treeOf(q.Where))
	}
	if e != api.OK {
		checkError(t, s, e, at)
	} else {
		checkCompiled(t, s, q)
	}
	return e
}

// checkConstant fails the test unless Constant returns this.
func checkConstant(t *testing.T, l []api.Node, is bool, want api.Errno) {
	t.Helper()
	if got, e := checks.Constant(l); got != is || e != want {
		t.Errorf("Constant(%v) is %v, %v, want %v, %v", l, got, e, is, want)
	}
}

// expression returns the expression of a text.
func expression(t *testing.T, s string) []api.Node {
	t.Helper()
	l, _, e := lexer.All(s)
	x, n, other := exprs.Parse(l, 0)
	if e != api.OK || other != api.OK || n != len(l) {
		t.Fatalf("%q is no expression: %v, %v", s, e, other)
	}
	return x
}

// The trees of these tests are what they are meant to be.
func TestTrees(t *testing.T) {
	for i, whole := range all() {
		if e := nodes.Check(whole.list()); e != api.OK {
			t.Errorf("%v is %v", whole.list(), e)
		}
		_, noNumber := whole.wrong(false)
		_, noTruth := whole.wrong(true)
		isNumber := i < len(numbers())
		isTruth := !isNumber && i < len(numbers())+len(truths())
		if noNumber == isNumber || noTruth == isTruth {
			t.Errorf("%v is a number: %v, a truth value: %v", whole.list(), !noNumber, !noTruth)
		}
		if other := treeOf(whole.list()); !slices.Equal(other.list(), whole.list()) {
			t.Errorf("%v is %v as a tree", whole.list(), other.list())
		}
	}
	for _, q := range rests() {
		if e := clauses.Check(query(q, number(), truth())); e != api.OK {
			t.Errorf("%v is %v", q, e)
		}
	}
}

// P10.1, P10.2, P10.3: the examples of the chapter, and those of the document and of the layers below that say what is typed.
func TestExamples(t *testing.T) {
	checkError(t, "select sum(v < 1) from a window tumble 5", api.ErrType, 13)
	checkError(t, "select sum(v) from a where v window tumble 5", api.ErrType, 27)
	checkConstant(t, expression(t, "1 + 2"), true, api.OK)
	checkConstant(t, expression(t, "1 + t"), false, api.OK)

	checkError(t, "select sum(v + (k < 2)) from a window tumble 5", api.ErrType, 13)
	checkError(t, "select count(*) from a where not v window tumble 5", api.ErrType, 29)
	checkError(t, "select count(*) from a where (v < 1) < 2 window tumble 5", api.ErrType, 37)
	checkError(t, "select count(*) from a", api.ErrForm, 22)
	checkCompiled(t, "select count(*) from a where (v < 1) = (k < 2) window tumble 5", api.Query{
		Agg: api.AgCount, Sources: []int{0}, Window: tumble(5), Late: api.LaDrop,
		Where: []api.Node{
			{Kind: api.NoValue, At: 30}, {Kind: api.NoNumber, N: 1, At: 34}, {Kind: api.NoLess, A: 0, B: 1, At: 32},
			{Kind: api.NoKey, At: 40}, {Kind: api.NoNumber, N: 2, At: 44}, {Kind: api.NoLess, A: 3, B: 4, At: 42},
			{Kind: api.NoEqual, A: 2, B: 5, At: 37},
		},
	})
}

// P10.1: Check's place is At, and neither the index of a node nor its place in the query: an argument, then a condition.
func TestPlace(t *testing.T) {
	q := api.Query{
		Agg: api.AgMin, Arg: []api.Node{{Kind: api.NoKey, At: 300}, {Kind: api.NoNumber, N: 7, At: 400}, {Kind: api.NoAdd, A: 0, B: 1, At: 299}},
		Sources: []int{2, 0}, Where: []api.Node{{Kind: api.NoTime, At: 50}, {Kind: api.NoNumber, N: 7, At: 60}, {Kind: api.NoOther, A: 0, B: 1, At: 70}},
		Window: slide(10, 5), ByKey: true, Late: api.LaSide,
	}
	checkQuery(t, q, 0, api.OK)
	for _, at := range []int{0, 1, 2, 299, 399, 400} {
		arg, where := slices.Clone(q.Arg), slices.Clone(q.Where)
		arg[2].At, where[2].At = at, at
		checkQuery(t, with(q, arg, where), 0, api.OK)
		where[2].Kind = api.NoSub
		checkQuery(t, with(q, arg, where), at, api.ErrType)
		arg[2].Kind, where[2].Kind = api.NoLess, api.NoOther
		checkQuery(t, with(q, arg, where), at, api.ErrType)
		// The place of a part does not matter where the whole does not fit.
		arg[0].At, arg[1].At, arg[2].Kind = 400, 0, api.NoAnd
		checkQuery(t, with(q, arg, where), at, api.ErrType)
	}
}

// with returns a query with another argument and condition.
func with(q api.Query, arg, where []api.Node) api.Query {
	q.Arg, q.Where = arg, where
	return q
}

// P10.1: each aggregate, with an argument that is a number and with one that is a truth value, and with each kind as its whole.
func TestArguments(t *testing.T) {
	for _, rest := range rests() {
		for _, where := range []*tree{nil, truth(), chain(api.NoNot, 18, truth())} {
			for _, x := range numbers() {
				arg, where := placed(x, where)
				checkQuery(t, query(rest, arg, where), 0, api.OK)
			}
			for _, x := range truths() {
				arg, where := placed(x, where)
				checkQuery(t, query(rest, arg, where), arg.at, api.ErrType)
			}
		}
	}
	for _, agg := range []string{"sum", "min", "max"} {
		checkReference(t, "select "+agg+"(v) from a window tumble 5")
		checkAt(t, "select "+agg+"(v #= 1) from a window tumble 5", api.ErrType)
		checkAt(t, "select "+agg+"(#not v < 1) from a window tumble 5", api.ErrType)
		checkAt(t, "select "+agg+"((v < 1) #and v > 1) from b join c window tumble 5", api.ErrType)
	}
}

// P10.1: a condition that is a truth value, and one that is a number, with each kind as its whole.
func TestConditions(t *testing.T) {
	for _, rest := range rests() {
		for _, arg := range []*tree{nil, number(), chain(api.NoNeg, 19, leaf(api.NoNumber))} {
			for _, x := range truths() {
				arg, where := placed(arg, x)
				checkQuery(t, query(rest, arg, where), 0, api.OK)
			}
			for _, x := range numbers() {
				arg, where := placed(arg, x)
				checkQuery(t, query(rest, arg, where), where.at, api.ErrType)
			}
		}
	}
	for _, agg := range []string{"count(*)", "sum(v)", "min(k)", "max(t)"} {
		checkReference(t, "select "+agg+" from a where v < 1 window tumble 5")
		checkAt(t, "select "+agg+" from a where #v window tumble 5", api.ErrType)
		checkAt(t, "select "+agg+" from a where #- (- 1) window session 5", api.ErrType)
		checkAt(t, "select "+agg+" from b join c where (v) #<< (1) window tumble 5", api.ErrType)
	}
}

// P10.1, P10.4: without argument and condition a valid query is right, whether the lists are nil or empty; so it is without one of them.
func TestWithout(t *testing.T) {
	for _, rest := range rests() {
		for _, none := range [][]api.Node{nil, {}, number().list()[:0], misfits()[0].list()[:0]} {
			count := rest
			count.Agg = api.AgCount
			checkQuery(t, with(count, none, none), 0, api.OK)
			checkQuery(t, with(count, none, truth().list()), 0, api.OK)
			checkQuery(t, with(rest, number().list(), none), 0, api.OK)
			arg, where := placed(truth(), number())
			checkQuery(t, with(count, none, where.list()), where.at, api.ErrType)
			checkQuery(t, with(rest, arg.list(), none), arg.at, api.ErrType)
		}
	}
	checkReference(t, "select count(*) from a window tumble 5")
	checkReference(t, "select count(*) from d join a window tumble 5 by key late side")
}

// P10.1, P10.2: the first node that does not fit is told ahead of the whole and of others, in an argument and in a condition; if all fit it is the whole.
func TestFirstMisfit(t *testing.T) {
	for _, x := range []string{
		"#not v", "v + 2 #* (k < 1)", "(v < 1) + (2 #+ (k < 1))", "(v < 1) #+ (2 + k)", "(2 + (v #+ (k < 1))) + (k < 1)",
		"not (v #and k)", "- (#- (v < 1))", "#- (v < 1) < (k and t)", "(v #< (k < 1)) < (t < 1)",
		"(v < 1) #= k", "k #!= (v < 1)", "(k #= (v < 1)) != 7", "v #or v < 1", "v < 1 #or v", "((v #and k) or t) and (not v)",
		"7 * (v #<< (v = 1)) >= (not k)", "(((#not 7)))", "1 + 2 + 3 #- (4 = 5) + 6", "not not (#not (- k))",
		"(k > t) #- (k > t)", "1 #- (not v = 2) + (- (v = 1))",
	} {
		checkAt(t, "select sum("+x+") from a window tumble 5", api.ErrType)
		checkAt(t, "select max ( "+x+" ) from a where v < 1 window slide 5 every 5", api.ErrType)
		checkAt(t, "select count(*) from a where "+x+" window tumble 5", api.ErrType)
		checkAt(t, "select min(v + 1) from b join c where "+x+" window tumble 5 by key late side", api.ErrType)
	}
	for _, x := range []string{"v #< 1", "#not v = 1", "(v < 1) #= (k < 1)", "(k = 1) and (t = 2) #or v = 3"} {
		checkAt(t, "select sum("+x+") from a window tumble 5", api.ErrType)
		checkReference(t, "select sum(v) from a where "+strings.ReplaceAll(x, "#", "")+" window tumble 5")
	}
	for _, x := range []string{"#v", "#7", "(#k)", "#- t", "1 + 2 #+ 3", "1 #+ 2 * 3", "- 1 #<< (k - 1)"} {
		checkAt(t, "select count(*) from a where "+x+" window tumble 5", api.ErrType)
		checkReference(t, "select sum("+strings.ReplaceAll(x, "#", "")+") from a window tumble 5")
	}
}

// P10.1, P10.4: an argument and a condition that are both wrong: the argument's place is told, wherever the condition's is.
func TestBothWrong(t *testing.T) {
	checkAt(t, "select sum(v #< 1) from a where v window tumble 5", api.ErrType)
	checkAt(t, "select sum(#not v) from a where not v window tumble 5", api.ErrType)
	checkAt(t, "select sum(v + (k #+ (t < 1))) from a where 7 window tumble 5", api.ErrType)
	checkAt(t, "select sum(v + k + (t #or 1)) from a where 7 + (v < 1) < 2 window tumble 5", api.ErrType)
	// The condition stands in front of the argument, as no text has it.
	arg, where := []api.Node{{Kind: api.NoKey, At: 90}, {Kind: api.NoNot, A: 0, At: 80}}, []api.Node{{Kind: api.NoValue, At: 7}}
	for _, rest := range rests() {
		checkQuery(t, with(rest, arg, where), 80, api.ErrType)
		checkQuery(t, with(rest, arg[:1], where), 7, api.ErrType)
		checkQuery(t, with(rest, arg, truth().list()), 80, api.ErrType)
	}
}

// P10.1, P10.4: each argument with each condition, and none: they are checked by themselves, the argument first, whatever else a query says.
func TestByThemselves(t *testing.T) {
	trees := append(all(), nil)
	for i, rest := range rests() {
		for j, x := range trees {
			for k, y := range trees {
				// Each pair is there with a third of all queries.
				if (i+j+k)%3 == 0 {
					arg, where := placed(x, y)
					checkTrees(t, rest, arg, where)
				}
			}
		}
	}
}

// P10.1: trees of all kinds, with up to three nodes, as arguments and conditions.
func TestSmallTrees(t *testing.T) {
	var small []*tree
	for kind := api.NoNumber; kind <= api.NoOr; kind++ {
		for first := api.NoNumber; first <= api.NoNot; first++ {
			part := leaf(first)
			if first > api.NoValue {
				part = one(first, number())
			}
			switch takes[kind-1] {
			case ".":
				small = append(small, leaf(kind))
			case "n", "t":
				small = append(small, one(kind, part))
			default:
				small = append(small, two(kind, part, number()), two(kind, number(), part), two(kind, part, truth()), two(kind, truth(), part))
			}
		}
	}
	for i, x := range small {
		rest := rests()[i%len(rests())]
		arg, where := placed(x, x)
		checkTrees(t, rest, arg, nil)
		checkTrees(t, rest, nil, where)
		checkTrees(t, rest, number(), where)
		checkTrees(t, rest, arg, where)
	}
}

// tooMany, tooDeep and noWhole return lists for which nodes.Check returns ErrMany, ErrDeep and ErrBad.
func tooMany() []api.Node { return slices.Repeat(leaf(api.NoNumber).list(), 61) }
func tooDeep() []api.Node {
	return append(chain(api.NoNeg, 19, leaf(api.NoNumber)).list(), api.Node{Kind: api.NoNeg, A: 19})
}
func noWhole() []api.Node { return slices.Repeat(leaf(api.NoNumber).list(), 2) }

// change is how a query is made one that is not valid, and its error.
type change struct {
	make func(q *api.Query)
	e    api.Errno
}

// changes are some for each part of a query, and each error.
func changes() []change {
	return []change{
		{func(q *api.Query) { q.Agg = 0 }, api.ErrBad},
		{func(q *api.Query) { q.Agg = api.AgMax + 1 }, api.ErrBad},
		{func(q *api.Query) { q.Late = 0 }, api.ErrBad},
		{func(q *api.Query) { q.Late = api.LaSide + 1 }, api.ErrBad},
		{func(q *api.Query) { q.Agg, q.Arg = api.AgCount, number().list() }, api.ErrBad},
		{func(q *api.Query) { q.Agg, q.Arg = api.AgCount, truth().list() }, api.ErrBad},
		{func(q *api.Query) { q.Agg, q.Arg = api.AgSum, nil }, api.ErrBad},
		{func(q *api.Query) { q.Agg, q.Arg = api.AgMin, []api.Node{} }, api.ErrBad},
		{func(q *api.Query) { q.Agg, q.Arg = api.AgMax, tooMany() }, api.ErrMany},
		{func(q *api.Query) { q.Agg, q.Arg = api.AgSum, tooDeep() }, api.ErrDeep},
		{func(q *api.Query) { q.Agg, q.Arg = api.AgMin, noWhole() }, api.ErrBad},
		{func(q *api.Query) { q.Agg, q.Arg = api.AgMin, []api.Node{{Kind: api.NoOr + 1, At: 9}} }, api.ErrBad},
		{func(q *api.Query) { q.Agg, q.Arg = api.AgMax, []api.Node{{Kind: api.NoValue, At: 401}} }, api.ErrBad},
		{func(q *api.Query) { q.Where = tooMany() }, api.ErrMany},
		{func(q *api.Query) { q.Where = tooDeep() }, api.ErrDeep},
		{func(q *api.Query) { q.Where = noWhole() }, api.ErrBad},
		{func(q *api.Query) { q.Where = []api.Node{{Kind: 0, At: 9}} }, api.ErrBad},
		{func(q *api.Query) { q.Where = append(truth().list(), api.Node{Kind: api.NoNot, A: 1, At: 9}) }, api.ErrBad},
		{func(q *api.Query) { q.Join, q.Sources = false, nil }, api.ErrBad},
		{func(q *api.Query) { q.Join, q.Sources = false, []int{4} }, api.ErrBad},
		{func(q *api.Query) { q.Sources = []int{0, 1, 2, 3, 0} }, api.ErrMany},
		{func(q *api.Query) { q.Sources = []int{2, 2} }, api.ErrName},
		{func(q *api.Query) { q.Join, q.Sources = true, []int{2} }, api.ErrBad},
		{func(q *api.Query) { q.Window = api.Window{} }, api.ErrBad},
		{func(q *api.Query) { q.Window = tumble(0) }, api.ErrBad},
		{func(q *api.Query) { q.Window = session(1<<30 + 1) }, api.ErrBad},
		{func(q *api.Query) { q.Window = slide(17, 1) }, api.ErrBad},
		{func(q *api.Query) { q.Window = api.Window{Kind: api.WiTumble, Size: 5, Every: 5} }, api.ErrBad},
		{func(q *api.Query) { q.Join, q.Sources, q.Window = true, []int{0, 1}, slide(5, 5) }, api.ErrBad},
		{func(q *api.Query) { q.Join, q.Sources, q.Window = true, []int{0, 1}, session(5) }, api.ErrBad},
	}
}

// P10.1, P1 (R1): clauses.Check's error, and 0, comes ahead of all that is not typed: for each part that is not valid, and for two of them.
func TestNotValid(t *testing.T) {
	args := []*tree{nil, number(), truth(), one(api.NoNot, number())}
	wheres := append(slices.Clone(args), one(api.NoNeg, truth()))
	for i, first := range changes() {
		for _, x := range args {
			for _, y := range wheres {
				arg, where := placed(x, y)
				rest := rests()[i%len(rests())]
				q := query(rest, arg, where)
				first.make(&q)
				checkQuery(t, q, 0, first.e)
				for _, second := range changes() {
					other := q
					second.make(&other)
					if e := clauses.Check(other); e != api.OK {
						checkQuery(t, other, 0, e)
					}
				}
			}
		}
	}
}

// P10.2: texts of right queries, each with its query and its length.
func TestCompile(t *testing.T) {
	checkCompiled(t, "select sum(v) from a union c where k > 0 window slide 10 every 5 by key late side", api.Query{
		Agg: api.AgSum, Arg: []api.Node{{Kind: api.NoValue, At: 11}}, Sources: []int{0, 2},
		Where:  []api.Node{{Kind: api.NoKey, At: 35}, {Kind: api.NoNumber, At: 39}, {Kind: api.NoMore, A: 0, B: 1, At: 37}},
		Window: slide(10, 5), ByKey: true, Late: api.LaSide,
	})
	checkCompiled(t, "\n select count(*)from d window session 30 \n\n", api.Query{Agg: api.AgCount, Sources: []int{3}, Window: session(30), Late: api.LaDrop})
	checkCompiled(t, "select max(- t) from b join a window tumble 007 late drop  ", api.Query{
		Agg: api.AgMax, Arg: []api.Node{{Kind: api.NoTime, At: 13}, {Kind: api.NoNeg, A: 0, At: 11}},
		Sources: []int{1, 0}, Join: true, Window: tumble(7), Late: api.LaDrop,
	})
	for _, s := range []string{
		"select min((k - t) * 2) from b where not (v < 1 or k = 2) and t << 1 >= 100 window slide 16 every 1",
		"select sum(7) from c union a union d union b where (v = 1) != (k != 2) window tumble 1073741824 by key",
		"select sum(" + strings.Repeat("- ", 19) + "v) from a where " + strings.Repeat("not ", 18) + "v < 1 window tumble 5",
		"select max(" + strings.Repeat("v+", 14) + "k) from a where " + strings.Repeat("v = 1 or ", 14) + "k < 1 window tumble 5",
		"select sum(v) from a where k < t window tumble 5" + strings.Repeat(" ", 352),
	} {
		if e := checkReference(t, s); e != api.OK {
			t.Errorf("%q is %v", s, e)
		}
	}
}

// P10.2, P1 (R1): parser.Parse's error, and where it is, comes ahead of all that is not typed, be this in front of it or behind.
func TestNotParsed(t *testing.T) {
	for s, e := range map[string]api.Errno{
		"#":                         api.ErrForm,
		"   #":                      api.ErrForm,
		"#sum(v)":                   api.ErrForm,
		"select sum(v < 1) from a#": api.ErrForm,
		"select sum(v < 1#":         api.ErrForm,
		"select sum(v < 1 #< 2) from a window tumble 5":                                       api.ErrForm,
		"select sum(not v #v) from a where v window tumble 5":                                 api.ErrForm,
		"select sum(not v) from a where v window #5":                                          api.ErrForm,
		"select count(#v) from a where v window tumble 5":                                     api.ErrForm,
		"select sum(#*) from a where v window tumble 5":                                       api.ErrForm,
		"select sum(v = 1) from a where v window slide 5 #tumble":                             api.ErrForm,
		"select sum(v < 1) from a union #a where v window tumble 5":                           api.ErrName,
		"select sum(v) from b join #b where v window tumble 5":                                api.ErrName,
		"select sum(v < 1) from a join b where 7 window #slide 5 every 5":                     api.ErrBad,
		"select sum(v < 1) from a join b where 7 window #session 5":                           api.ErrBad,
		"select sum(v < 1) from a where 7 window tumble #0":                                   api.ErrRange,
		"select sum(v < 1) from a where 7 window session #1073741825":                         api.ErrRange,
		"select sum(v < 1) from a where 7 window slide 17 every #1":                           api.ErrRange,
		"select sum(v < 1) from a where 7 window tumble 5 #5":                                 api.ErrMore,
		"select sum(v < 1) from a where 7 window tumble 5 by key late side #by":               api.ErrMore,
		"select sum(v < 1) from a where 7 window tumble 5 #!":                                 api.ErrToken,
		"select sum(v < 1) from a where 7 window tumble 5#\t":                                 api.ErrToken,
		"select sum(v < 1) from a where 7 #windows tumble 5":                                  api.ErrToken,
		"select sum(v < 1) from a where 7 < v window tumble 5 late #key":                      api.ErrForm,
		"select sum(not - #not v) from a":                                                     api.ErrForm,
		"select sum(#" + strings.Repeat("- ", 20) + "v) from a window tumble 5":               api.ErrDeep,
		"select sum(v < 1) from a where #" + strings.Repeat("not ", 20) + "v window tumble 5": api.ErrDeep,
		"select sum(" + strings.Repeat("(v < 1) + ", 12) + "v + #not v) from a":               api.ErrForm,
		"select sum(" + strings.Repeat("(v<1)+", 14) + "(v<1)#+v+v) from a where v":           api.ErrMany,
	} {
		checkAt(t, s, e)
	}
	for _, s := range []string{strings.Repeat(" ", 401), "select sum(v < 1) from a window tumble 5" + strings.Repeat(" ", 361), strings.Repeat("v ", 200) + "v"} {
		if e := checkReference(t, s); e != api.ErrMany {
			t.Errorf("%q is %v", s, e)
		}
	}
}

// sentences returns the front, the middle and the end of a query's text, and the query: its argument and its condition are between them.
func sentences(r *rand.Rand) (front, middle, end string, q api.Query) {
	agg := r.Intn(3)
	front = "select " + []string{"sum", "min", "max"}[agg] + []string{"(", " (\n", "(  "}[r.Intn(3)]
	q = api.Query{Agg: api.AgSum + uint8(agg), Late: api.LaDrop}
	switch r.Intn(3) {
	case 0:
		middle, end, q.Sources, q.Window = ") from b where ", " window session 30 ", []int{1}, session(30)
	case 1:
		middle, end, q.Sources, q.Window = " ) from d union a where\n", "\nwindow slide 7 every 2", []int{3, 0}, slide(7, 2)
	default:
		middle, end, q.Sources, q.Window, q.Join = ")from c join a where ", " window tumble 5", []int{2, 0}, tumble(5), true
	}
	if r.Intn(2) == 0 {
		end, q.ByKey = end+" by key", true
	}
	if r.Intn(2) == 0 {
		end, q.Late = end+" late side", api.LaSide
	}
	return front, middle, end, q
}

// either returns a random tree: one that is typed, mostly as it is asked for, or one that is mostly not.
func either(r *rand.Rand, truth bool) *tree {
	if r.Intn(4) == 0 {
		return random(r, 1+r.Intn(12))
	}
	return randomTyped(r, 3+r.Intn(2), truth == (r.Intn(6) > 0))
}

// P10.1, P10.2, P10.4: random queries, written as texts: each is compiled to what it was written from just if this is right.
func TestRandom(t *testing.T) {
	r := rand.New(rand.NewSource(1))
	compiled, wrong := 0, map[bool]int{}
	for range 20000 {
		front, middle, end, want := sentences(r)
		arg, where := either(r, false), either(r, true)
		s := arg.written(front) + middle
		s = where.written(s) + end
		if len(s) > api.MaxText {
			continue
		}
		at, e := verdictOf(arg, where)
		want.Arg, want.Where = arg.list(), where.list()
		checkQuery(t, want, at, e)
		if e == api.OK {
			compiled++
			checkCompiled(t, s, want)
			continue
		}
		wrong[at < strings.Index(s, "from")]++
		checkError(t, s, e, at)
		checkToken(t, s, at, want)
	}
	if compiled < 1000 || wrong[true] < 1000 || wrong[false] < 1000 {
		t.Errorf("%d are compiled, of %v the argument is wrong or not", compiled, wrong)
	}
}

// checkToken fails the test unless at a place of a text is the token of a node of its query.
func checkToken(t *testing.T, s string, at int, q api.Query) {
	t.Helper()
	tokens, _, _ := lexer.All(s)
	found := slices.ContainsFunc(tokens, func(token api.Token) bool { return token.At == at })
	is := func(node api.Node) bool { return node.At == at }
	if !found || !slices.ContainsFunc(q.Arg, is) && !slices.ContainsFunc(q.Where, is) {
		t.Errorf("%d of %q is the place of no node", at, s)
	}
}

// P10.2, P10.4, P1 (R7): a text is compiled just if it is that of a query that is right, whatever the text is.
func TestAnyText(t *testing.T) {
	r := rand.New(rand.NewSource(2))
	binary := signs[5:]
	texts := append(strings.Fields("select count sum min max from union join where window tumble slide every session by key late drop side a b c d ( ) 0 1 7 1073741824 select!"), signs...)
	samples := []string{
		"select count ( * ) from a where v < 1 window tumble 5",
		"select sum ( v * 2 ) from b join d where k > 0 window tumble 5 by key late drop",
		"select min ( v - k ) from c union a where not v = 7 and ( k < t ) window slide 10 every 5 by key late side",
		"select max ( v << 1 ) from d where ( v = 1 ) = ( t < 2 ) window session 3 late side",
	}
	seen := map[api.Errno]int{}
	for i := range 20000 {
		l := strings.Fields(samples[i%4])
		for at, text := range l[4:] {
			if slices.Contains(binary, text) && r.Intn(3) == 0 {
				l[4+at] = binary[r.Intn(len(binary))]
			}
		}
		seen[checkReference(t, strings.Join(l, " "))]++
		for range r.Intn(3) {
			at, text := r.Intn(len(l)), texts[r.Intn(len(texts))]
			l = slices.Replace(l, at, at+1, [][]string{{text}, {text, l[at]}, {}}[r.Intn(3)]...)
		}
		seen[checkReference(t, strings.Join(l, " "))]++
		text := []byte(samples[i%4])
		text[r.Intn(len(text))] = byte(r.Intn(256))
		seen[checkReference(t, string(text))]++
		noise := make([]byte, r.Intn(420))
		r.Read(noise)
		seen[checkReference(t, string(noise))]++
	}
	for _, e := range []api.Errno{api.OK, api.ErrType, api.ErrForm, api.ErrToken, api.ErrMany} {
		if seen[e] < 500 {
			t.Errorf("only %d texts are %v", seen[e], e)
		}
	}
}

// P10.3: an expression is constant just if it has neither a key, nor a time, nor a value: those of one node, and ordinary ones.
func TestConstant(t *testing.T) {
	checkConstant(t, leaf(api.NoNumber).list(), true, api.OK)
	checkConstant(t, []api.Node{{Kind: api.NoNumber, N: math.MaxInt64, At: 400}}, true, api.OK)
	for kind := api.NoKey; kind <= api.NoValue; kind++ {
		checkConstant(t, leaf(kind).list(), false, api.OK)
	}
	for s, is := range map[string]bool{
		"7": true, "- 7": true, "1 << 65": true, "(1 + 2) * 3 - 4 >> 5": true, "not 1 < 2": true, "1 <= 2 or 3 != 4": true,
		"v": false, "- k": false, "t << 65": false, "(1 + 2) * 3 - k >> 5": false, "not 1 < v": false, "t <= 2 or 3 != 4": false,
		"0 * v": false, "k - k": false, "1 < 2 or v = 1": false, "k + t + v": false,
	} {
		checkConstant(t, expression(t, s), is, api.OK)
	}
}

// P10.3: expressions need not be typed to be constant.
func TestConstantNotTyped(t *testing.T) {
	for s, is := range map[string]bool{"1 + (2 < 3)": true, "not 1": true, "(1 < 2) < 3": true, "1 and 2": true, "- (1 = 2)": true, "1 + (2 < k)": false, "not t": false, "(1 < 2) < v": false} {
		checkConstant(t, expression(t, s), is, api.OK)
	}
	for _, whole := range all() {
		checkConstant(t, whole.list(), !whole.fields(), api.OK)
	}
}

// P10.3: a key, a time or a value at each place of a constant expression, up to 60 nodes and the depth 20, is found.
func TestConstantPlaces(t *testing.T) {
	for _, whole := range []*tree{sums(1), sums(2), sums(16), chain(api.NoNeg, 13, two(api.NoLess, sums(16), sums(8))), chain(api.NoNot, 19, number())} {
		l := whole.list()
		var leaves []int
		for i, node := range l {
			if node.Kind == api.NoValue {
				l[i].Kind = api.NoNumber
				leaves = append(leaves, i)
			}
		}
		checkConstant(t, l, true, api.OK)
		for _, i := range leaves {
			for kind := api.NoKey; kind <= api.NoValue; kind++ {
				other := slices.Clone(l)
				other[i].Kind = kind
				checkConstant(t, other, false, api.OK)
			}
		}
	}
	r := rand.New(rand.NewSource(3))
	for range 5000 {
		whole := random(r, 1+r.Intn(20))
		if e := nodes.Check(whole.list()); e == api.OK {
			checkConstant(t, whole.list(), !whole.fields(), api.OK)
		}
	}
}

// P10.3: a list of no nodes, and one that is no expression: nodes.Check's error, and false, with and without a key in it.
func TestConstantErrors(t *testing.T) {
	key := leaf(api.NoKey).list()
	for _, x := range []struct {
		l []api.Node
		e api.Errno
	}{
		{nil, api.ErrBad},
		{[]api.Node{}, api.ErrBad},
		{leaf(api.NoNumber).list()[:0], api.ErrBad},
		{tooMany(), api.ErrMany},
		{tooDeep(), api.ErrDeep},
		{noWhole(), api.ErrBad},
		{slices.Concat(key, key), api.ErrBad},
		{slices.Repeat(key, 61), api.ErrMany},
		{append(chain(api.NoNeg, 19, leaf(api.NoKey)).list(), api.Node{Kind: api.NoNeg, A: 19}), api.ErrDeep},
		{make([]api.Node, 61), api.ErrMany},
		{make([]api.Node, 60), api.ErrBad},
		{[]api.Node{{Kind: 0}}, api.ErrBad},
		{[]api.Node{{Kind: api.NoOr + 1}}, api.ErrBad},
		{[]api.Node{{Kind: 255}}, api.ErrBad},
		{[]api.Node{{Kind: api.NoNumber, N: -1}}, api.ErrBad},
		{[]api.Node{{Kind: api.NoNumber, At: 401}}, api.ErrBad},
		{[]api.Node{{Kind: api.NoNumber, At: -1}}, api.ErrBad},
		{[]api.Node{{Kind: api.NoNumber, A: 1}}, api.ErrBad},
		{[]api.Node{{Kind: api.NoNumber}, {Kind: api.NoNeg, A: 1}}, api.ErrBad},
		{[]api.Node{{Kind: api.NoNumber}, {Kind: api.NoNeg, A: math.MinInt}}, api.ErrBad},
		{[]api.Node{{Kind: api.NoNumber}, {Kind: api.NoNumber}, {Kind: api.NoAdd, A: 1, B: 0}}, api.ErrBad},
	} {
		checkConstant(t, x.l, false, x.e)
	}
}

// behindNodes returns a list with nodes in the memory behind its length, and all of this memory.
func behindNodes(l []api.Node) (given, memory []api.Node) {
	memory = slices.Concat(l, slices.Repeat([]api.Node{{Kind: api.NoKey, N: -5, A: -5, B: -5, At: -5}}, 70))
	return memory[:len(l)], memory
}

// P1 (R2): arguments are not changed, the memory behind the length of a list among them, and this memory does not matter.
func TestArgumentsStay(t *testing.T) {
	lists := [][]api.Node{nil, tooMany(), tooDeep(), noWhole()}
	for _, whole := range all() {
		lists = append(lists, whole.list())
	}
	for i, x := range lists {
		for _, y := range lists {
			arg, argMemory := behindNodes(x)
			where, whereMemory := behindNodes(y)
			sources := []int{2, 0, 9, 9, 9}
			argKept, whereKept := slices.Clone(argMemory), slices.Clone(whereMemory)
			q := with(rests()[i%12], arg, where)
			q.Sources = sources[:2]
			at, e := checks.Check(q)
			plain := with(q, slices.Clone(x), slices.Clone(y))
			plain.Sources = []int{2, 0}
			checkQuery(t, plain, at, e)
			_, _ = checks.Constant(arg)
			if !slices.Equal(argMemory, argKept) || !slices.Equal(whereMemory, whereKept) || !slices.Equal(sources, []int{2, 0, 9, 9, 9}) {
				t.Errorf("%v was changed", plain)
			}
		}
		given, _ := behindNodes(x)
		is, e := checks.Constant(slices.Clone(x))
		checkConstant(t, given, is, e)
	}
}

// P1 (R2): a result that is changed, or appended to, changes no other one, and no part of its own.
func TestResultsAreNew(t *testing.T) {
	const s = "select sum(v * 2) from a union c where k > 0 and t < 7 window slide 10 every 5 by key late side"
	want, _, _ := parser.Parse(s)
	first, _, _ := checks.Compile(s)
	second, _, _ := checks.Compile(s)
	_ = append(first.Sources, 9, 9, 9, 9)
	_ = append(first.Arg, make([]api.Node, 60)...)
	_ = append(first.Where, make([]api.Node, 60)...)
	if !equal(first, want) {
		t.Errorf("the query is %v when its parts are appended to, want %v", first, want)
	}
	first.Sources[0], first.Sources[1] = 9, 9
	for _, l := range [][]api.Node{first.Arg, first.Where} {
		for i := range l {
			l[i] = api.Node{Kind: 99}
		}
	}
	if !equal(second, want) {
		t.Errorf("the query is %v when another one is changed, want %v", second, want)
	}
	checkCompiled(t, s, want)
}

// P1 (R1, R2): what was checked and compiled before does not matter, be it right or not.
func TestNothingIsKept(t *testing.T) {
	const s = "select max(v) from b where k > t window session 3"
	want, _, _ := parser.Parse(s)
	for _, before := range []string{"", "!", s, "select max(not v) from b window tumble 5", "select max(v) from b where k window tumble 5", "select count(*) from a join a", "select count(*) from d window tumble 5"} {
		for range 2 {
			checkReference(t, before)
			checkCompiled(t, s, want)
			checkConstant(t, want.Arg, false, api.OK)
		}
	}
	for _, change := range changes() {
		q := with(want, slices.Clone(want.Arg), slices.Clone(want.Where))
		change.make(&q)
		checkQuery(t, q, 0, change.e)
		checkQuery(t, want, 0, api.OK)
		checkConstant(t, noWhole(), false, api.ErrBad)
		checkConstant(t, leaf(api.NoNumber).list(), true, api.OK)
	}
}

// anyNodes returns nodes that may be anything, or, every other time, those of some tree.
func anyNodes(r *rand.Rand, some []*tree) []api.Node {
	if r.Intn(2) == 0 {
		return some[r.Intn(len(some))].list()
	}
	l := make([]api.Node, r.Intn(4))
	for i := range l {
		l[i] = api.Node{Kind: uint8(r.Intn(22)), N: r.Int63() - r.Int63(), A: r.Intn(5) - 2, B: r.Intn(5) - 2, At: r.Intn(500) - 50}
		if r.Intn(2) == 0 {
			l[i] = api.Node{Kind: uint8(1 + r.Intn(5)), At: r.Intn(401)}
		}
	}
	return l
}

// P10.1, P10.3, P1 (R7): queries and lists of anything at all.
func TestAnything(t *testing.T) {
	r := rand.New(rand.NewSource(4))
	some, seen := append(all(), nil), map[api.Errno]int{}
	for range 40000 {
		q := rests()[r.Intn(12)]
		q.Arg, q.Where = anyNodes(r, some), anyNodes(r, some)
		switch r.Intn(8) {
		case 0:
			q.Agg, q.Late = uint8(r.Intn(256)), uint8(r.Intn(256))
		case 1:
			q.Sources = []int{r.Int() - r.Int(), r.Intn(5)}
		case 2:
			q.Window = api.Window{Kind: uint8(r.Intn(5)), Size: r.Int63() - r.Int63(), Every: r.Int63() - r.Int63()}
		case 3:
			q.Agg, q.Arg = api.AgCount, nil
		}
		at, e := 0, clauses.Check(q)
		if e == api.OK {
			at, e = verdictOf(treeOf(q.Arg), treeOf(q.Where))
		}
		seen[e]++
		checkQuery(t, q, at, e)
		wrong := nodes.Check(q.Where)
		checkConstant(t, q.Where, wrong == api.OK && !treeOf(q.Where).fields(), wrong)
	}
	if seen[api.OK] < 500 || seen[api.ErrType] < 500 || seen[api.ErrBad] < 500 {
		t.Errorf("only so many are there: %v", seen)
	}
}
