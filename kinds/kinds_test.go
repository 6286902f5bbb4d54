package kinds_test

import (
	"math"
	"math/rand"
	"slices"
	"testing"

	"tailwater/api"
	"tailwater/exprs"
	"tailwater/kinds"
	"tailwater/lexer"
	"tailwater/nodes"
)

// tree is an expression, told by what a node has as its parts, and not by indices.
type tree struct {
	kind  uint8
	parts []tree
}

// leaf, one and two return trees of a kind with no parts, one or two.
func leaf(kind uint8) tree           { return tree{kind: kind} }
func one(kind uint8, a tree) tree    { return tree{kind, []tree{a}} }
func two(kind uint8, a, b tree) tree { return tree{kind, []tree{a, b}} }

// number and truth return a number of one node, and a truth value of three.
func number() tree { return leaf(4) }
func truth() tree  { return two(12, leaf(4), leaf(2)) }

// takes returns what the parts of a kind may be, as the chapter tells it: a letter for each part, n for a number and t for a truth value.
func takes(kind uint8) []string {
	switch kind {
	case 1, 2, 3, 4:
		return []string{""}
	case 5:
		return []string{"n"}
	case 6:
		return []string{"t"}
	case 7, 8, 9, 10, 11, 12, 13, 14, 15:
		return []string{"nn"}
	case 16, 17:
		return []string{"nn", "tt"}
	case 18, 19:
		return []string{"tt"}
	}
	return nil
}

// gives returns what a kind gives, as the chapter tells it: n or t.
func gives(kind uint8) string {
	switch kind {
	case 6, 12, 13, 14, 15, 16, 17, 18, 19:
		return "t"
	}
	return "n"
}

// partsOf returns how many parts a kind has.
func partsOf(kind uint8) int { return len(takes(kind)[0]) }

// fits reports whether the whole of a tree fits.
func (whole tree) fits() bool {
	given := ""
	for _, part := range whole.parts {
		given += gives(part.kind)
	}
	return slices.Contains(takes(whole.kind), given)
}

// each returns the trees of all nodes, in their order.
func (whole *tree) each() []*tree {
	var l []*tree
	for i := range whole.parts {
		l = append(l, whole.parts[i].each()...)
	}
	return append(l, whole)
}

// list returns the nodes of a tree, all of them at 0.
func (whole tree) list() []api.Node { return whole.behind(nil) }

// behind returns nodes with those of a tree behind them.
func (whole tree) behind(l []api.Node) []api.Node {
	var ends [2]int
	for i, part := range whole.parts {
		l = part.behind(l)
		ends[i] = len(l) - 1
	}
	return append(l, api.Node{Kind: whole.kind, A: ends[0], B: ends[1]})
}

// answer is what all functions have to return for an expression.
type answer struct {
	truth                 bool
	at, numberAt, truthAt int
	all                   []bool
	e, numberE, truthE    api.Errno
}

// wrong returns the answer for a list with an error that all functions return, and an index.
func wrong(at int, e api.Errno) answer {
	return answer{at: at, numberAt: at, truthAt: at, e: e, numberE: e, truthE: e}
}

// right returns the answer for a typed expression, for what each node gives.
func right(all []bool) answer {
	last := len(all) - 1
	result := answer{truth: all[last], at: last, numberAt: last, truthAt: last, all: all}
	if result.truth {
		result.numberE = api.ErrType
	} else {
		result.truthE = api.ErrType
	}
	return result
}

// reference returns the answer for a tree of a valid expression.
func reference(whole tree) answer {
	var all []bool
	for at, part := range whole.each() {
		if !part.fits() {
			return wrong(at, api.ErrType)
		}
		all = append(all, gives(part.kind) == "t")
	}
	return right(all)
}

// checkAnswer fails the test unless all functions return what an answer says.
func checkAnswer(t *testing.T, l []api.Node, want answer) {
	t.Helper()
	if is, at, e := kinds.Of(l); is != want.truth || at != want.at || e != want.e {
		t.Errorf("Of(%v) is %v, %d, %v, want %v, %d, %v", l, is, at, e, want.truth, want.at, want.e)
	}
	if all, e := kinds.All(l); !slices.Equal(all, want.all) || e != want.e {
		t.Errorf("All(%v) is %v, %v, want %v, %v", l, all, e, want.all, want.e)
	}
	if at, e := kinds.Number(l); at != want.numberAt || e != want.numberE {
		t.Errorf("Number(%v) is %d, %v, want %d, %v", l, at, e, want.numberAt, want.numberE)
	}
	if at, e := kinds.Truth(l); at != want.truthAt || e != want.truthE {
		t.Errorf("Truth(%v) is %d, %v, want %d, %v", l, at, e, want.truthAt, want.truthE)
	}
}

// checkTree fails the test unless all functions return what the reference says.
func checkTree(t *testing.T, whole tree) {
	t.Helper()
	checkAnswer(t, whole.list(), reference(whole))
}

// parsed returns the expression of a text.
func parsed(t *testing.T, s string) []api.Node {
	t.Helper()
	l, _, e := lexer.All(s)
	if e != api.OK {
		t.Fatalf("All(%q) is %v", s, e)
	}
	x, at, e := exprs.Parse(l, 0)
	if e != api.OK || at != len(l) {
		t.Fatalf("Parse(%q) is %d, %v", s, at, e)
	}
	return x
}

// treesOf returns all trees of from 1 to so many nodes, for each number of them, that have some kinds.
func treesOf(most int, some []uint8) [][]tree {
	bySize := make([][]tree, most+1)
	for size := 1; size <= most; size++ {
		for _, kind := range some {
			bySize[size] = append(bySize[size], treesWith(kind, size, bySize)...)
		}
	}
	return bySize
}

// treesWith returns all trees of a size whose whole has a kind, for those of all smaller sizes.
func treesWith(kind uint8, size int, smaller [][]tree) []tree {
	var l []tree
	switch {
	case partsOf(kind) == 0 && size == 1:
		l = append(l, leaf(kind))
	case partsOf(kind) == 1:
		for _, a := range smaller[size-1] {
			l = append(l, one(kind, a))
		}
	case partsOf(kind) == 2:
		for first := 1; first < size-1; first++ {
			for _, a := range smaller[first] {
				for _, b := range smaller[size-1-first] {
					l = append(l, two(kind, a, b))
				}
			}
		}
	}
	return l
}

// allKinds returns the kinds from 1 to 19.
func allKinds() []uint8 {
	var l []uint8
	for kind := uint8(1); kind <= 19; kind++ {
		l = append(l, kind)
	}
	return l
}

// random returns a tree of so many nodes.
func random(r *rand.Rand, size int) tree {
	switch {
	case size == 1:
		return leaf(uint8(1 + r.Intn(4)))
	case size == 2 || r.Intn(4) == 0:
		return one(uint8(5+r.Intn(2)), random(r, size-1))
	}
	first := 1 + r.Intn(size-2)
	return two(uint8(7+r.Intn(13)), random(r, first), random(r, size-1-first))
}

// randomTyped returns a tree that is typed, of a depth that is not greater than this one.
func randomTyped(r *rand.Rand, depth int, what string) tree {
	if depth == 1 {
		return leaf(uint8(1 + r.Intn(4)))
	}
	for {
		kind := uint8(1 + r.Intn(19))
		choices := takes(kind)
		choice := choices[r.Intn(len(choices))]
		// A truth value has a number in it, and so a depth of at least 2.
		if gives(kind) != what || depth < 3 && slices.Contains([]string{"t", "tt"}, choice) {
			continue
		}
		whole := leaf(kind)
		for _, part := range choice {
			whole.parts = append(whole.parts, randomTyped(r, depth-1, string(part)))
		}
		return whole
	}
}

// chain returns a tree with so many nodes of a kind with one part around another tree.
func chain(kind uint8, n int, whole tree) tree {
	for range n {
		whole = one(kind, whole)
	}
	return whole
}

// sums returns a tree of so many numbers, a power of 2, added in pairs.
func sums(n int) tree {
	if n == 1 {
		return number()
	}
	return two(8, sums(n/2), sums(n/2))
}

// P6.1, P6.2, P6.3: the examples of the chapter.
func TestExamples(t *testing.T) {
	// v, 2, the sum, k, and which is less.
	checkAnswer(t, parsed(t, "v + 2 < k"), right([]bool{false, false, false, false, true}))
	// v, 1, which is less, k, 2, which is less, and the equality.
	checkAnswer(t, parsed(t, "(v < 1) = (k < 2)"), right([]bool{false, false, true, false, false, true, true}))
	checkAnswer(t, parsed(t, "v + (k < 2)"), wrong(4, api.ErrType))
	checkAnswer(t, parsed(t, "not v"), wrong(1, api.ErrType))
	checkAnswer(t, parsed(t, "(v < 1) < 2"), wrong(4, api.ErrType))
}

// P6.1, P6.2, P6.3: ordinary expressions, and what each node gives.
func TestOrdinary(t *testing.T) {
	for s, all := range map[string]string{
		"7":                     "n",
		"k":                     "n",
		"- - t":                 "nnn",
		"v * 2 + k << 3 - t":    "nnnnnnnnn",
		"v - (k >> 2) <= - 3":   "nnnnnnnt",
		"not (v < 1) and k = 2": "nnttnntt",
		"not not (v >= t)":      "nnttt",
		"v > 1 or t != 2":       "nntnntt",
		"(v = 1) != (k != 2)":   "nntnntt",
		"(v + 1) = (k * 2)":     "nnnnnnt",
	} {
		var want []bool
		for _, letter := range all {
			want = append(want, letter == 't')
		}
		checkAnswer(t, parsed(t, s), right(want))
	}
}

// P6.1, P6.3: a whole that is one node is a number, and its index is 0.
func TestOneNode(t *testing.T) {
	for kind := uint8(1); kind <= 4; kind++ {
		checkAnswer(t, leaf(kind).list(), right([]bool{false}))
	}
	checkAnswer(t, []api.Node{{Kind: 1, N: math.MaxInt64, At: 400}}, right([]bool{false}))
}

// P6.1, P6.2, P6.3: each kind with each choice of numbers and truth values as its parts, those of more nodes among them.
func TestEachKind(t *testing.T) {
	some := []tree{number(), leaf(1), one(5, number()), two(8, number(), leaf(3)), truth(), one(6, truth()), two(18, truth(), truth()), two(16, number(), number()), two(17, truth(), truth())}
	for _, kind := range allKinds() {
		switch partsOf(kind) {
		case 0:
			checkTree(t, leaf(kind))
		case 1:
			for _, a := range some {
				checkTree(t, one(kind, a))
			}
		case 2:
			for _, a := range some {
				for _, b := range some {
					checkTree(t, two(kind, a, b))
				}
			}
		}
	}
}

// P6.1: "=" and its other take two numbers or two truth values, and not one of each; no other kind takes both.
func TestEqual(t *testing.T) {
	for _, kind := range []uint8{16, 17} {
		checkAnswer(t, two(kind, number(), number()).list(), right([]bool{false, false, true}))
		checkAnswer(t, two(kind, truth(), truth()).list(), right([]bool{false, false, true, false, false, true, true}))
		checkAnswer(t, two(kind, number(), truth()).list(), wrong(4, api.ErrType))
		checkAnswer(t, two(kind, truth(), number()).list(), wrong(4, api.ErrType))
	}
	for _, kind := range allKinds() {
		if kind == 16 || kind == 17 || partsOf(kind) == 0 {
			continue
		}
		numbers := slices.Repeat([]tree{number()}, partsOf(kind))
		truths := slices.Repeat([]tree{truth()}, partsOf(kind))
		_, _, numbersE := kinds.Of(tree{kind, numbers}.list())
		_, _, truthsE := kinds.Of(tree{kind, truths}.list())
		if (numbersE == api.OK) == (truthsE == api.OK) {
			t.Errorf("the kind %d with numbers is %v, with truth values %v", kind, numbersE, truthsE)
		}
	}
}

// P6.1, P6.3: the first node that does not fit, whatever the whole would give: where several do not, where one that does is in front or behind, and where it is deep inside.
func TestFirstMisfit(t *testing.T) {
	for s, at := range map[string]int{
		"not v and not k":               1, // both of them, and "and" fits
		"v and k and t":                 2, // both of them
		"(v and k) + (t or 1)":          2, // all three of them
		"(v + (v < 1)) + (k + (not v))": 4, // all but the whole
		"not (v < 1) and not v":         5, // behind one that does
		"(not v) and not (v < 1)":       1, // ahead of one that does
		"- (v < 1) + (not k)":           3, // ahead of the whole, which does not fit either, and would be a number
		"v * (v + (k < 2)) < (v < 1)":   5, // the same, and the whole would be a truth value
		"(v + (k < 2)) < 1":             4, // the whole fits, and would be a truth value
		"- (v + (k < 2))":               4, // the whole fits, and would be a number
		"1 < v + (k < 2)":               5, // in the second part
		"(1 < v) + (not v) = 2":         4, // a part of the second part of a sum, ahead of the sum
		"((v < 1) = 2) = (v < 1)":       4, // the whole fits, as its first part would be a truth value
		"((v < 1) = 2) + 1":             4, // the whole does not, for the same reason
		"(v < 1) = (k < 2) and v":       8, // the whole alone
		"v + 1 = 2 and not (t << 1)":    8,
		"v and (k < 1)":                 4, // by the first part
		"(k < 1) and v":                 4, // by the second part
		"- - - (v < 1)":                 3,
		"not - (v < 1)":                 3,
		"not not - v":                   2,
	} {
		checkAnswer(t, parsed(t, s), wrong(at, api.ErrType))
	}
}

// P6.1, P6.2, P6.3: all trees of up to four nodes, and all of up to seven with some kinds.
func TestAllTrees(t *testing.T) {
	count := 0
	for _, l := range slices.Concat(treesOf(4, allKinds()), treesOf(7, []uint8{4, 5, 6, 8, 12, 16, 18})) {
		for _, whole := range l {
			checkTree(t, whole)
			if t.Failed() {
				return
			}
			count++
		}
	}
	// 4 + 8 + 224 + 1280, and 1 + 2 + 8 + 32 + 144 + 672 + 3264.
	if count != 1516+4123 {
		t.Errorf("there were %d trees", count)
	}
}

// P6.1, P6.2, P6.3: random trees of all sizes that are valid, most of which are not typed.
func TestRandomTrees(t *testing.T) {
	r := rand.New(rand.NewSource(1))
	for i := range 6000 {
		whole := random(r, 1+i%60)
		l := whole.list()
		if nodes.Check(l) == api.OK {
			checkAnswer(t, l, reference(whole))
		}
	}
}

// typedTrees returns random trees that are typed and valid.
func typedTrees(seed int64) []tree {
	r := rand.New(rand.NewSource(seed))
	var l []tree
	for len(l) < 600 {
		whole := randomTyped(r, 2+len(l)%10, []string{"n", "t"}[len(l)%2])
		if nodes.Check(whole.list()) == api.OK {
			l = append(l, whole)
		}
	}
	return l
}

// P6.1, P6.2, P6.3: random trees that are typed, and the same with another kind of two parts for one node.
func TestRandomTypedTrees(t *testing.T) {
	r := rand.New(rand.NewSource(2))
	good, bad := 0, 0
	for _, whole := range typedTrees(3) {
		checkTree(t, whole)
		if e := reference(whole).e; e != api.OK {
			t.Fatalf("%v is %v", whole.list(), e)
		}
		all := whole.each()
		node := all[r.Intn(len(all))]
		if partsOf(node.kind) != 2 {
			continue
		}
		node.kind = uint8(7 + r.Intn(13))
		checkTree(t, whole)
		if reference(whole).e == api.OK {
			good++
		} else {
			bad++
		}
	}
	if good < 20 || bad < 20 {
		t.Errorf("%d of the others are typed, %d are not", good, bad)
	}
}

// P6.1, P6.2, P6.3: expressions with as many nodes, or as deep, as they may be.
func TestLimits(t *testing.T) {
	// Of 31 and of 28 nodes.
	a, b := sums(16), two(8, chain(5, 11, number()), sums(8))
	for _, whole := range []tree{two(8, a, b), two(12, a, b), two(16, b, a), two(18, a, b), two(8, one(6, sums(16)), two(8, chain(5, 10, number()), sums(8)))} {
		if l := whole.list(); len(l) != 60 || nodes.Check(l) != api.OK {
			t.Fatalf("%v has %d nodes, and is %v", l, len(l), nodes.Check(l))
		}
		checkTree(t, whole)
	}
	for _, whole := range []tree{
		chain(5, 19, number()), chain(6, 19, number()), chain(6, 18, truth()), chain(5, 18, truth()),
		two(12, chain(5, 18, number()), chain(5, 18, number())), two(18, chain(6, 17, truth()), chain(6, 17, truth())), two(18, chain(6, 17, truth()), chain(5, 18, number())),
	} {
		if n, e := nodes.Depth(whole.list()); n != 20 || e != api.OK {
			t.Fatalf("%v has the depth %d, and is %v", whole.list(), n, e)
		}
		checkTree(t, whole)
	}
}

// P6.1, P6.2, P6.3: the error that Check of layer 4 returns comes first, with the index 0 and nothing else.
func TestCheckErrors(t *testing.T) {
	many := slices.Repeat(leaf(4).list(), 61)
	for _, l := range [][]api.Node{many, two(8, sums(16), sums(16)).list(), slices.Repeat(leaf(0).list(), 61), slices.Repeat(leaf(4).list(), 1000)} {
		checkAnswer(t, l, wrong(0, api.ErrMany))
	}
	for _, l := range [][]api.Node{
		nil, {}, many[:2], many[:60], leaf(0).list(), leaf(20).list(), leaf(255).list(),
		{{Kind: 4, N: 1}}, {{Kind: 1, N: -1}}, {{Kind: 1, At: -1}}, {{Kind: 1, At: 401}}, {{Kind: 1, A: 1}}, {{Kind: 4, B: -1}},
		{{Kind: 5}}, {{Kind: 6, A: -1}}, {{Kind: 16, A: math.MinInt, B: math.MaxInt}}, {{Kind: 4}, {Kind: 18, A: -1, B: 0}}, {{Kind: 4}, {Kind: 6, A: 1}}, {{Kind: 4}, {Kind: 16}},
		{{Kind: 4}, {Kind: 4}, {Kind: 16, A: 1, B: 0}}, {{Kind: 4}, {Kind: 4}, {Kind: 16, A: 1, B: 1}}, {{Kind: 4}, {Kind: 4}, {Kind: 16, A: 0, B: 3}},
	} {
		checkAnswer(t, l, wrong(0, api.ErrBad))
	}
	for _, whole := range []tree{chain(5, 20, number()), chain(6, 19, truth()), two(12, chain(5, 19, number()), number()), two(16, number(), chain(5, 19, number()))} {
		checkAnswer(t, whole.list(), wrong(0, api.ErrDeep))
	}
}

// P6.1, P6.2, P6.3: Check's error comes ahead of ErrType, wherever the node that does not fit stands.
func TestCheckAheadOfType(t *testing.T) {
	misfit := one(6, number()).list()
	checkAnswer(t, slices.Concat(misfit, []api.Node{{Kind: 20, A: 1}}), wrong(0, api.ErrBad))
	checkAnswer(t, slices.Concat(misfit, []api.Node{{Kind: 4}}), wrong(0, api.ErrBad))
	whole := one(6, two(8, truth(), number())).list()
	for at := range whole {
		l := slices.Clone(whole)
		l[at].At = 401
		checkAnswer(t, l, wrong(0, api.ErrBad))
	}
	for n := 20; n < 60; n++ {
		checkAnswer(t, chain(6, n, number()).list(), wrong(0, api.ErrDeep))
	}
	checkAnswer(t, chain(6, 60, number()).list(), wrong(0, api.ErrMany))
	checkAnswer(t, two(18, sums(16), sums(16)).list(), wrong(0, api.ErrMany))
}

// P6.1, P6.2, P6.3: lists of any nodes: an error of Check is that of all functions.
func TestAnyLists(t *testing.T) {
	r := rand.New(rand.NewSource(4))
	for range 20000 {
		l := make([]api.Node, r.Intn(8))
		for i := range l {
			l[i] = api.Node{Kind: uint8(r.Intn(22)), A: r.Intn(i + 2), B: r.Intn(i+2) - 1, N: int64(r.Intn(20) / 19), At: r.Intn(402)}
		}
		if e := nodes.Check(l); e != api.OK {
			checkAnswer(t, l, wrong(0, e))
		}
	}
}

// P6.4: an expression that is typed is a number or a truth value, never both, and one that is not is neither.
func TestOneKindForEach(t *testing.T) {
	for _, l := range treesOf(4, allKinds()) {
		for _, whole := range l {
			x := whole.list()
			is, at, e := kinds.Of(x)
			numberAt, numberE := kinds.Number(x)
			truthAt, truthE := kinds.Truth(x)
			if (numberE == api.OK) != (e == api.OK && !is) || (truthE == api.OK) != (e == api.OK && is) || numberAt != at || truthAt != at {
				t.Fatalf("%v is %v, %v, as a number %v, as a truth value %v", x, is, e, numberE, truthE)
			}
		}
	}
}

// P6.4: what a kind gives does not depend on its parts.
func TestPartsDoNotMatter(t *testing.T) {
	told := map[uint8]bool{}
	for _, whole := range typedTrees(5) {
		l := whole.list()
		all, e := kinds.All(l)
		if e != api.OK || len(all) != len(l) {
			t.Fatalf("All(%v) is %v, %v", l, all, e)
		}
		for at, is := range all {
			before, ok := told[l[at].Kind]
			if ok && before != is {
				t.Fatalf("the kind %d gives %v, and %v", l[at].Kind, before, is)
			}
			told[l[at].Kind] = is
		}
	}
	if len(told) != 19 {
		t.Errorf("there were the kinds %v", told)
	}
}

// P6.4: each part of a typed expression is typed, and All tells for its node what Of tells for it.
func TestPartsAreTyped(t *testing.T) {
	for _, whole := range typedTrees(6) {
		l := whole.list()
		all, _ := kinds.All(l)
		for at := range l {
			part, _ := nodes.Part(l, at)
			if is, last, e := kinds.Of(part); is != all[at] || last != len(part)-1 || e != api.OK {
				t.Fatalf("Of(%v) is %v, %d, %v", part, is, last, e)
			}
		}
	}
}

// P6.4: an expression of typed parts is typed just if its whole fits, and of parts that are not it is not.
func TestTypedParts(t *testing.T) {
	some := slices.Concat(treesOf(3, []uint8{1, 5, 6, 8, 12, 16, 18})...)
	some = append(some, truth(), one(6, truth()), two(16, truth(), truth()), two(18, truth(), one(6, number())))
	for _, kind := range allKinds() {
		if partsOf(kind) != 2 {
			continue
		}
		for _, a := range some {
			for _, b := range some {
				_, _, first := kinds.Of(a.list())
				_, _, second := kinds.Of(b.list())
				whole := two(kind, a, b)
				_, at, e := kinds.Of(whole.list())
				if typed := first == api.OK && second == api.OK; (e == api.OK) != (typed && whole.fits()) {
					t.Fatalf("Of(%v) is %d, %v", whole.list(), at, e)
				} else if typed && at != len(whole.list())-1 {
					t.Fatalf("Of(%v) is at %d", whole.list(), at)
				}
			}
		}
	}
}

// P6.4: where nodes stand does not matter, nor does which numbers they are.
func TestPlacesDoNotMatter(t *testing.T) {
	r := rand.New(rand.NewSource(7))
	for i, whole := range typedTrees(8) {
		if i%2 == 0 {
			whole = random(r, 1+r.Intn(14))
		}
		l := whole.list()
		for at := range l {
			l[at].At = r.Intn(401)
			if l[at].Kind == 1 {
				l[at].N = r.Int63()
			}
		}
		checkAnswer(t, l, reference(whole))
	}
}

// P1 (R2): arguments are not changed, the memory behind the length of a list among them, and this memory does not matter.
func TestArgumentsStay(t *testing.T) {
	for _, whole := range []tree{number(), truth(), one(6, number()), two(16, truth(), truth()), two(8, truth(), number()), chain(5, 20, number()), sums(32)} {
		l := whole.list()
		given := slices.Concat(l, truth().list(), slices.Repeat([]api.Node{{Kind: 99, N: -5, A: -5, B: -5, At: -5}}, 70))
		kept := slices.Clone(given)
		want := reference(whole)
		if e := nodes.Check(l); e != api.OK {
			want = wrong(0, e)
		}
		checkAnswer(t, given[:len(l)], want)
		if !slices.Equal(given, kept) {
			t.Errorf("%v was changed to %v", kept, given)
		}
	}
}

// P1 (R2): a result of All that is changed, up to its capacity, changes none that was or is returned.
func TestResultsAreNew(t *testing.T) {
	l, want := truth().list(), []bool{false, false, true}
	for range 3 {
		first, _ := kinds.All(l)
		second, _ := kinds.All(l)
		for _, all := range [][]bool{first, second} {
			if !slices.Equal(all, want) {
				t.Fatalf("All(%v) is %v", l, all)
			}
			all = all[:cap(all)]
			for i := range all {
				all[i] = !all[i]
			}
		}
		checkAnswer(t, l, right(want))
	}
}
