package nodes_test

import (
	"math"
	"math/rand"
	"slices"
	"testing"
	"unsafe"

	"tailwater/api"
	"tailwater/nodes"
)

// tree is an expression, told by what a node has as its parts, and not by indices.
type tree struct {
	kind  uint8
	n     int64
	at    int
	parts []tree
}

// leaf, number, one and two return trees at the place 0.
func leaf(kind uint8) tree           { return tree{kind: kind} }
func number(n int64) tree            { return tree{kind: 1, n: n} }
func one(kind uint8, a tree) tree    { return tree{kind: kind, parts: []tree{a}} }
func two(kind uint8, a, b tree) tree { return tree{kind: kind, parts: []tree{a, b}} }

// placed returns a tree whose whole is at another place.
func placed(at int, whole tree) tree {
	whole.at = at
	return whole
}

// list returns a list of these nodes.
func list(l ...api.Node) []api.Node { return l }

// expression returns a tree of a kind with as few nodes as it may have.
func expression(kind uint8) tree { return leaves(kind, leaf(2), leaf(4)) }

// leaves returns a tree of a kind with as many of two parts as it has.
func leaves(kind uint8, a, b tree) tree {
	return tree{kind: kind, parts: []tree{a, b}[:partsOf(kind)]}
}

// list returns the nodes of a tree, and all the trees of these nodes.
func (whole tree) list() []api.Node { return whole.behind(nil) }
func (whole tree) all() []tree      { return whole.allBehind(nil) }

// behind returns nodes with those of a tree behind them.
func (whole tree) behind(l []api.Node) []api.Node {
	var ends [2]int
	for i, part := range whole.parts {
		l = part.behind(l)
		ends[i] = len(l) - 1
	}
	return append(l, api.Node{Kind: whole.kind, N: whole.n, A: ends[0], B: ends[1], At: whole.at})
}

// allBehind returns trees with all those of a tree behind them, in the order of their nodes.
func (whole tree) allBehind(l []tree) []tree {
	for _, part := range whole.parts {
		l = part.allBehind(l)
	}
	return append(l, whole)
}

// size returns how many nodes a tree has.
func (whole tree) size() int {
	size := 1
	for _, part := range whole.parts {
		size += part.size()
	}
	return size
}

// depth returns how deep a tree is nested.
func (whole tree) depth() int {
	deepest := 0
	for _, part := range whole.parts {
		deepest = max(deepest, part.depth())
	}
	return 1 + deepest
}

// partsOf returns how many parts a kind has, as the chapter tells it, or -1.
func partsOf(kind uint8) int {
	switch kind {
	case 1, 2, 3, 4:
		return 0
	case 5, 6:
		return 1
	case 7, 8, 9, 10, 11, 12, 13, 14, 15, 16, 17, 18, 19:
		return 2
	}
	return -1
}

// read returns the tree whose whole is a node with an index, told by the kinds alone, and the index of its first node; false if there is none.
func read(l []api.Node, last int) (tree, int, bool) {
	if last < 0 || partsOf(l[last].Kind) < 0 {
		return tree{}, 0, false
	}
	whole := tree{kind: l[last].Kind, n: l[last].N, at: l[last].At}
	first := last
	for range partsOf(whole.kind) {
		part, at, ok := read(l, first-1)
		if !ok {
			return tree{}, 0, false
		}
		whole.parts = append([]tree{part}, whole.parts...)
		first = at
	}
	return whole, first, true
}

// reference returns what Check has to return, told by trees.
func reference(l []api.Node) api.Errno {
	if len(l) > 60 {
		return api.ErrMany
	}
	for _, node := range l {
		if node.N < 0 || node.N > 0 && node.Kind != 1 || node.At < 0 || node.At > 400 {
			return api.ErrBad
		}
	}
	whole, first, ok := read(l, len(l)-1)
	if !ok || first != 0 || !slices.Equal(whole.list(), l) {
		return api.ErrBad
	}
	if whole.depth() > 20 {
		return api.ErrDeep
	}
	return api.OK
}

// checkIs fails the test unless Check returns this.
func checkIs(t *testing.T, l []api.Node, want api.Errno) {
	t.Helper()
	if e := nodes.Check(l); e != want {
		t.Errorf("Check(%v) is %v, want %v", l, e, want)
	}
}

// checkError fails the test unless each call with a list returns this error, and else nothing.
func checkError(t *testing.T, l []api.Node, want api.Errno) {
	t.Helper()
	checkIs(t, l, want)
	if n, e := nodes.Depth(l); n != 0 || e != want {
		t.Errorf("Depth(%v) is %d, %v, want %v", l, n, e, want)
	}
	for _, at := range []int{0, len(l) - 1, len(l), -1} {
		checkNoPart(t, l, at, want)
	}
	good := number(7).list()
	checkNotCompared(t, l, good, want)
	checkNotCompared(t, good, l, want)
	checkNotCompared(t, l, l, want)
	checkNoNode(t, want, 5, 0, 0, l)
	checkNoNode(t, want, 8, 0, 0, l, good)
	checkNoNode(t, want, 8, 0, 0, good, l)
}

// checkNoPart fails the test unless Size and Part return this error, and else nothing.
func checkNoPart(t *testing.T, l []api.Node, at int, want api.Errno) {
	t.Helper()
	if n, e := nodes.Size(l, at); n != 0 || e != want {
		t.Errorf("Size(%v, %d) is %d, %v, want %v", l, at, n, e, want)
	}
	if part, e := nodes.Part(l, at); len(part) != 0 || e != want {
		t.Errorf("Part(%v, %d) is %v, %v, want %v", l, at, part, e, want)
	}
}

// checkSame fails the test unless two expressions are the same, or are not, in both directions.
func checkSame(t *testing.T, a, b []api.Node, want bool) {
	t.Helper()
	if is, e := nodes.Same(a, b); is != want || e != api.OK {
		t.Errorf("Same(%v, %v) is %v, %v, want %v", a, b, is, e, want)
	}
	if is, e := nodes.Same(b, a); is != want || e != api.OK {
		t.Errorf("Same(%v, %v) is %v, %v, want %v", b, a, is, e, want)
	}
}

// checkNotCompared fails the test unless Same returns this error, and false.
func checkNotCompared(t *testing.T, a, b []api.Node, want api.Errno) {
	t.Helper()
	if is, e := nodes.Same(a, b); is || e != want {
		t.Errorf("Same(%v, %v) is %v, %v, want %v", a, b, is, e, want)
	}
}

// checkNoNode fails the test unless Node returns this error, and no nodes.
func checkNoNode(t *testing.T, want api.Errno, kind uint8, n int64, at int, parts ...[]api.Node) {
	t.Helper()
	if l, e := nodes.Node(kind, n, at, parts...); len(l) != 0 || e != want {
		t.Errorf("Node(%d, %d, %d, %v) is %v, %v, want %v", kind, n, at, parts, l, e, want)
	}
}

// checkTree fails the test unless the list of a tree is valid, each node has the size and the expression of its tree, and Node makes the list of its parts.
func checkTree(t *testing.T, whole tree) {
	t.Helper()
	l := whole.list()
	checkIs(t, l, api.OK)
	if n, e := nodes.Depth(l); n != whole.depth() || e != api.OK {
		t.Errorf("Depth(%v) is %d, %v, want %d", l, n, e, whole.depth())
	}
	for at, part := range whole.all() {
		if n, e := nodes.Size(l, at); n != part.size() || e != api.OK {
			t.Errorf("Size(%v, %d) is %d, %v, want %d", l, at, n, e, part.size())
		}
		if got, e := nodes.Part(l, at); !slices.Equal(got, part.list()) || e != api.OK {
			t.Errorf("Part(%v, %d) is %v, %v, want %v", l, at, got, e, part.list())
		}
	}
	var parts [][]api.Node
	for _, part := range whole.parts {
		parts = append(parts, part.list())
	}
	if got, e := nodes.Node(whole.kind, whole.n, whole.at, parts...); !slices.Equal(got, l) || e != api.OK {
		t.Errorf("Node(%d, %d, %d, %v) is %v, %v, want %v", whole.kind, whole.n, whole.at, parts, got, e, l)
	}
}

// chain returns a tree of so many nodes, each of which is the only part of the next one.
func chain(n int) tree {
	whole := leaf(4)
	for range n - 1 {
		whole = one(5, whole)
	}
	return whole
}

// leftComb and rightComb return trees of a depth, in which all first, or all second parts have no parts but one.
func leftComb(depth int) tree {
	whole := leaf(4)
	for range depth - 1 {
		whole = two(8, whole, number(3))
	}
	return whole
}

func rightComb(depth int) tree {
	whole := leaf(4)
	for range depth - 1 {
		whole = two(9, number(3), whole)
	}
	return whole
}

// bushy returns a tree of so many nodes that is as flat as it can be.
func bushy(n int) tree {
	switch n {
	case 1:
		return leaf(2)
	case 2:
		return one(5, leaf(3))
	}
	return two(7, bushy((n-1)/2), bushy(n-1-(n-1)/2))
}

// randomTree returns a tree of so many nodes with any kinds, numbers and places.
func randomTree(r *rand.Rand, n int) tree {
	whole := tree{at: r.Intn(401)}
	switch {
	case n == 1:
		whole.kind = uint8(1 + r.Intn(4))
		if whole.kind == 1 {
			whole.n = r.Int63() >> r.Intn(63)
		}
	case n == 2 || r.Intn(4) == 0:
		whole.kind = uint8(5 + r.Intn(2))
		whole.parts = []tree{randomTree(r, n-1)}
	default:
		first := 1 + r.Intn(n-2)
		whole.kind = uint8(7 + r.Intn(13))
		whole.parts = []tree{randomTree(r, first), randomTree(r, n-1-first)}
	}
	return whole
}

// randomTrees returns trees of all sizes that are not too deep.
func randomTrees(seed int64) []tree {
	r := rand.New(rand.NewSource(seed))
	var l []tree
	for i := range 600 {
		if whole := randomTree(r, 1+i%60); whole.depth() <= 20 {
			l = append(l, whole)
		}
	}
	return l
}

// v + 2 * k, the example of the chapter, with places.
func example() tree {
	return placed(2, two(8, leaf(4), placed(6, two(7, placed(4, number(2)), placed(8, leaf(2))))))
}

// goodTrees returns one tree for each kind, ordinary ones, and those at the limits.
func goodTrees() []tree {
	l := []tree{
		example(),
		number(0), number(1), number(math.MaxInt64), placed(400, number(7)), placed(400, example()),
		two(8, example(), number(2)), two(18, one(6, two(16, leaf(4), number(1))), two(12, leaf(2), number(2))),
		one(5, one(5, one(5, leaf(3)))), two(7, one(5, leaf(2)), one(5, leaf(3))), two(7, leaf(2), one(6, leaf(3))), two(7, one(6, leaf(2)), leaf(3)),
		two(9, two(9, leaf(2), leaf(3)), leaf(4)), two(9, leaf(2), two(9, leaf(3), leaf(4))), two(9, two(9, leaf(2), leaf(3)), two(9, leaf(4), number(1))),
		bushy(59), bushy(60), chain(19), chain(20), leftComb(19), leftComb(20), rightComb(19), rightComb(20),
		two(7, chain(19), leftComb(19)), two(7, rightComb(19), chain(19)), two(7, chain(19), leaf(2)), two(7, leaf(2), chain(19)),
		two(7, leftComb(15), bushy(30)), two(7, bushy(30), rightComb(15)),
	}
	for kind := uint8(1); kind <= 19; kind++ {
		l = append(l, expression(kind), placed(400, leaves(kind, example(), chain(5))), leaves(kind, rightComb(4), leftComb(3)))
	}
	return l
}

// P4.1, P4.2, P4.3: ordinary expressions, each kind, and the limits.
func TestGoodTrees(t *testing.T) {
	for _, whole := range goodTrees() {
		checkTree(t, whole)
	}
}

// P4.1, P4.2, P4.3, P4.4: expressions of all sizes with any kinds, numbers and places.
func TestRandomTrees(t *testing.T) {
	all := randomTrees(1)
	if len(all) < 400 {
		t.Errorf("only %d trees", len(all))
	}
	for _, whole := range all {
		checkTree(t, whole)
	}
}

// P4.1, P4.2: the example of the chapter, written out.
func TestExample(t *testing.T) {
	l := list(
		api.Node{Kind: api.NoValue, At: 0},
		api.Node{Kind: api.NoNumber, N: 2, At: 4},
		api.Node{Kind: api.NoKey, At: 8},
		api.Node{Kind: api.NoMul, A: 1, B: 2, At: 6},
		api.Node{Kind: api.NoAdd, A: 0, B: 3, At: 2},
	)
	if !slices.Equal(l, example().list()) {
		t.Fatalf("the tree of the example is %v", example().list())
	}
	checkIs(t, l, api.OK)
	if n, e := nodes.Depth(l); n != 3 || e != api.OK {
		t.Errorf("the depth is %d, %v", n, e)
	}
	want := list(
		api.Node{Kind: api.NoNumber, N: 2, At: 4},
		api.Node{Kind: api.NoKey, At: 8},
		api.Node{Kind: api.NoMul, A: 0, B: 1, At: 6},
	)
	if part, e := nodes.Part(l, 3); !slices.Equal(part, want) || e != api.OK {
		t.Errorf("the expression of the node 3 is %v, %v", part, e)
	}
	if n, e := nodes.Size(l, 3); n != 3 || e != api.OK {
		t.Errorf("the size of the node 3 is %d, %v", n, e)
	}
}

// P4.1: the parts of all 256 kinds.
func TestPartsGives(t *testing.T) {
	for k := range 256 {
		kind := uint8(k)
		n, e := nodes.Parts(kind)
		if want := partsOf(kind); want < 0 && (n != 0 || e != api.ErrArg) || want >= 0 && (n != want || e != api.OK) {
			t.Errorf("Parts(%d) is %d, %v", kind, n, e)
		}
	}
}

// P4.1: the kinds of the nodes are those of the chapter.
func TestPartsByName(t *testing.T) {
	for n, kinds := range [][]uint8{
		{api.NoNumber, api.NoKey, api.NoTime, api.NoValue},
		{api.NoNeg, api.NoNot},
		{api.NoMul, api.NoAdd, api.NoSub, api.NoShl, api.NoShr, api.NoLess, api.NoAtMost, api.NoMore, api.NoLeast, api.NoEqual, api.NoOther, api.NoAnd, api.NoOr},
	} {
		for _, kind := range kinds {
			if got, e := nodes.Parts(kind); got != n || e != api.OK {
				t.Errorf("Parts(%d) is %d, %v, want %d", kind, got, e, n)
			}
		}
	}
}

// P4.1: the empty list is no expression.
func TestEmptyList(t *testing.T) {
	checkError(t, nil, api.ErrBad)
	checkError(t, []api.Node{}, api.ErrBad)
	checkError(t, make([]api.Node, 0, 5), api.ErrBad)
}

// P4.1: kinds that there are not, wherever the node is.
func TestNoSuchKind(t *testing.T) {
	for k := range 256 {
		kind := uint8(k)
		if partsOf(kind) >= 0 {
			continue
		}
		checkError(t, list(api.Node{Kind: kind}), api.ErrBad)
		for at := range 5 {
			l := example().list()
			l[at].Kind = kind
			checkError(t, l, api.ErrBad)
		}
	}
}

// P4.1: N of a number is at least 0, and that of another node 0.
func TestNumbers(t *testing.T) {
	for _, n := range []int64{0, 1, 400, 401, 1 << 40, math.MaxInt64 - 1, math.MaxInt64} {
		checkIs(t, list(api.Node{Kind: 1, N: n}), api.OK)
	}
	for _, n := range []int64{-1, -2, -1 << 40, math.MinInt64 + 1, math.MinInt64} {
		checkError(t, list(api.Node{Kind: 1, N: n}), api.ErrBad)
		checkError(t, two(7, number(1), number(n)).list(), api.ErrBad)
		checkError(t, two(7, number(n), number(1)).list(), api.ErrBad)
	}
	for kind := uint8(2); kind <= 19; kind++ {
		for _, n := range []int64{1, -1, 7, math.MaxInt64, math.MinInt64} {
			whole := expression(kind)
			whole.n = n
			checkError(t, whole.list(), api.ErrBad)
			checkError(t, one(5, whole).list(), api.ErrBad)
		}
	}
}

// P4.1: At is from 0 to 400, for each node.
func TestPlaces(t *testing.T) {
	for kind := uint8(1); kind <= 19; kind++ {
		l := two(7, expression(kind), number(1)).list()
		for i := range l {
			for _, at := range []int{0, 1, 200, 399, 400} {
				l[i].At = at
				checkIs(t, l, api.OK)
			}
			for _, at := range []int{-1, 401, 1 << 16, 1 << 32, math.MaxInt, math.MinInt} {
				l[i].At = at
				checkError(t, l, api.ErrBad)
			}
			l[i].At = 0
		}
	}
}

// wrongIndices returns indices beside those of a list.
func wrongIndices() []int {
	return []int{-1, -2, 3, 4, 5, 6, 7, 8, 60, 1 << 32, math.MaxInt, math.MinInt}
}

// P4.1: A and B that are no parts are 0.
func TestUnusedIndices(t *testing.T) {
	for kind := uint8(1); kind <= 6; kind++ {
		for _, i := range append(wrongIndices(), 1, 2) {
			l := two(8, expression(kind), leaf(3)).list()
			at := len(l) - 3
			l[at].B = i
			checkError(t, l, api.ErrBad)
			if partsOf(kind) == 0 {
				l = two(8, leaf(3), expression(kind)).list()
				l[1].A = i
				checkError(t, l, api.ErrBad)
				checkError(t, list(api.Node{Kind: kind, A: i}), api.ErrBad)
			}
			checkError(t, list(api.Node{Kind: kind, B: i}), api.ErrBad)
		}
	}
}

// P4.1: A and B are the indices of the last nodes of the parts, and no others.
func TestWrongIndices(t *testing.T) {
	for _, whole := range []tree{example(), two(7, example(), leaf(2)), two(7, example(), example()), one(5, example()), two(8, leaf(2), leaf(2)), one(6, leaf(2))} {
		l := whole.list()
		for at, node := range l {
			for _, i := range append(wrongIndices(), 0, 1, 2, at-1, at, at+1) {
				wrong := slices.Clone(l)
				if i != node.A {
					wrong[at].A = i
					checkError(t, wrong, api.ErrBad)
				}
				if i != node.B {
					wrong[at] = node
					wrong[at].B = i
					checkError(t, wrong, api.ErrBad)
				}
			}
		}
	}
	crossed := two(8, leaf(2), leaf(3)).list()
	crossed[2].A, crossed[2].B = 1, 0
	checkError(t, crossed, api.ErrBad)
}

// P4.1: each node but the last one is a part of just one other node.
func TestPartOfOneNode(t *testing.T) {
	v, k := leaf(4).list()[0], leaf(2).list()[0]
	checkError(t, list(v, k), api.ErrBad)
	checkError(t, list(v, k, v), api.ErrBad)
	checkError(t, append(list(v), one(5, leaf(2)).list()...), api.ErrBad)
	checkError(t, append(example().list(), example().list()...), api.ErrBad)
	checkError(t, list(v, api.Node{Kind: 8, A: 0, B: 0}), api.ErrBad)
	checkError(t, list(v, k, api.Node{Kind: 8, A: 1, B: 1}), api.ErrBad)
	checkError(t, list(v, k, api.Node{Kind: 5, A: 1}), api.ErrBad)
	checkError(t, list(v, api.Node{Kind: 5, A: 0}, api.Node{Kind: 8, A: 0, B: 1}), api.ErrBad)
	checkError(t, list(k, v, api.Node{Kind: 5, A: 0}), api.ErrBad)
	checkError(t, list(v, k, k, api.Node{Kind: 8, A: 1, B: 2}), api.ErrBad)
	checkError(t, list(v, k, k, api.Node{Kind: 8, A: 0, B: 2}), api.ErrBad)
	behind := two(8, leaf(2), leaf(3)).behind(leaf(4).list())
	checkError(t, behind, api.ErrBad)
	checkError(t, append(example().list(), v), api.ErrBad)
}

// P4.1: a node that has parts, and none ahead of it.
func TestNoPartsAhead(t *testing.T) {
	for kind := uint8(5); kind <= 19; kind++ {
		for _, a := range []int{0, -1, 1} {
			for _, b := range []int{0, -1, 1} {
				checkError(t, list(api.Node{Kind: kind, A: a, B: b}), api.ErrBad)
				checkError(t, list(api.Node{Kind: kind, A: a, B: b}, api.Node{Kind: 5}), api.ErrBad)
				if kind >= 7 {
					checkError(t, list(leaf(2).list()[0], api.Node{Kind: kind, A: a, B: b}), api.ErrBad)
				}
			}
		}
	}
}

// P4.1: 60 nodes are not too many, and 61 are, whatever they are.
func TestMostNodes(t *testing.T) {
	checkIs(t, bushy(60).list(), api.OK)
	checkError(t, bushy(61).list(), api.ErrMany)
	checkError(t, chain(61).list(), api.ErrMany)
	checkError(t, bushy(1000).list(), api.ErrMany)
	checkError(t, make([]api.Node, 61), api.ErrMany)
	checkError(t, make([]api.Node, 60), api.ErrBad)
	checkError(t, slices.Repeat(list(api.Node{Kind: 20, N: -1, A: -1, B: 99, At: 401}), 1000), api.ErrMany)
	checkError(t, slices.Repeat(leaf(2).list(), 61), api.ErrMany)
	checkError(t, slices.Repeat(leaf(2).list(), 60), api.ErrBad)
}

// P4.1: the depth 20 is not too deep, and 21 is, but a list that is not valid otherwise is ErrBad.
func TestDeepest(t *testing.T) {
	for depth := 1; depth <= 20; depth++ {
		for _, whole := range []tree{chain(depth), leftComb(depth), rightComb(depth)} {
			if n, e := nodes.Depth(whole.list()); n != depth || e != api.OK {
				t.Errorf("Depth(%v) is %d, %v, want %d", whole.list(), n, e, depth)
			}
		}
	}
	for _, whole := range []tree{
		chain(21), chain(60), leftComb(21), rightComb(21), leftComb(30), rightComb(30),
		two(7, chain(20), leaf(2)), two(7, leaf(2), chain(20)), two(7, leaf(2), leftComb(20)), one(5, rightComb(20)), two(7, leftComb(20), chain(20)), two(7, chain(1), chain(58)),
	} {
		l := whole.list()
		checkError(t, l, api.ErrDeep)
		for at := range l {
			for _, change := range []func(*api.Node){
				func(node *api.Node) { node.Kind = 0 }, func(node *api.Node) { node.Kind = 20 }, func(node *api.Node) { node.N = -1 }, func(node *api.Node) { node.At = 401 }, func(node *api.Node) { node.At = -1 },
				func(node *api.Node) { node.A = at }, func(node *api.Node) { node.B = at + 1 },
			} {
				wrong := slices.Clone(l)
				change(&wrong[at])
				// A of the first node may be 0, and then nothing was changed.
				if wrong[at] != l[at] {
					checkError(t, wrong, api.ErrBad)
				}
			}
		}
		if len(l) < 60 {
			checkError(t, append(l, leaf(2).list()...), api.ErrBad)
		}
	}
}

// P4.1: all lists of up to three nodes with some kinds, and indices within and next to the list, told by the reference.
func TestShortLists(t *testing.T) {
	var choices []api.Node
	for _, kind := range []uint8{0, 1, 3, 5, 6, 7, 19, 20} {
		for a := -1; a <= 2; a++ {
			for b := -1; b <= 2; b++ {
				choices = append(choices, api.Node{Kind: kind, A: a, B: b})
			}
		}
	}
	good := 0
	for _, first := range choices {
		checkIs(t, list(first), reference(list(first)))
		for _, second := range choices {
			checkIs(t, list(first, second), reference(list(first, second)))
			for _, third := range choices {
				l := list(first, second, third)
				e := nodes.Check(l)
				if e != reference(l) {
					t.Fatalf("Check(%v) is %v", l, e)
				}
				if e == api.OK {
					good++
				}
			}
		}
	}
	// Two kinds of no parts, of one and of two: 2 * 2 * 2 chains, and 2 * 2 * 2 pairs with an operator.
	if good != 16 {
		t.Errorf("%d lists of three nodes are valid", good)
	}
}

// P4.1, P4.4: a list of which one kind, index or unused number is another one is another expression, or none.
func TestOneOther(t *testing.T) {
	r := rand.New(rand.NewSource(2))
	for _, whole := range append(randomTrees(3)[:150], goodTrees()...) {
		l := whole.list()
		for range 40 {
			other := slices.Clone(l)
			node := &other[r.Intn(len(l))]
			switch r.Intn(4) {
			case 0:
				node.Kind = uint8(r.Intn(21))
			case 1:
				node.N = int64(r.Intn(5) - 1)
			case 2:
				node.A = r.Intn(len(l)+2) - 1
			case 3:
				node.B = r.Intn(len(l)+2) - 1
			}
			e := nodes.Check(other)
			if e != reference(other) {
				t.Fatalf("Check(%v) is %v", other, e)
			}
			if e == api.OK {
				checkSame(t, l, other, slices.Equal(l, other))
			}
		}
	}
}

// P4.1: lists of any nodes, told by the reference.
func TestAnyLists(t *testing.T) {
	r := rand.New(rand.NewSource(4))
	for range 20000 {
		l := make([]api.Node, r.Intn(8))
		for i := range l {
			l[i] = api.Node{Kind: uint8(r.Intn(22)), N: int64(r.Intn(20) / 19), At: r.Intn(402)}
			switch partsOf(l[i].Kind) {
			case 1:
				l[i].A = i - 1
			case 2:
				l[i].A, l[i].B = r.Intn(i+1), i-1
			}
		}
		if e := nodes.Check(l); e != reference(l) {
			t.Fatalf("Check(%v) is %v, want %v", l, e, reference(l))
		}
	}
}

// P4.2: there is a node for each index from 0 on that is less than how many there are.
func TestNoSuchNode(t *testing.T) {
	for _, whole := range []tree{leaf(2), example(), bushy(60), chain(20)} {
		l := whole.list()
		for _, at := range []int{-1, -2, len(l), len(l) + 1, 400, 1 << 32, math.MaxInt, math.MinInt} {
			checkNoPart(t, l, at, api.ErrArg)
		}
		for _, at := range []int{0, len(l) - 1} {
			if _, e := nodes.Size(l, at); e != api.OK {
				t.Errorf("Size(%v, %d) is %v", l, at, e)
			}
			if _, e := nodes.Part(l, at); e != api.OK {
				t.Errorf("Part(%v, %d) is %v", l, at, e)
			}
		}
	}
}

// P4.2: an index is looked at within the list alone, and not in the memory behind it.
func TestNodesBehind(t *testing.T) {
	l := two(8, leaf(2), leaf(3)).list()
	checkNoPart(t, l[:1:3], 1, api.ErrArg)
	checkNoPart(t, l[:1:3], 2, api.ErrArg)
}

// P4.2: the first and the last node: the last one is the whole.
func TestFirstAndLast(t *testing.T) {
	for _, whole := range goodTrees() {
		l := whole.list()
		if n, e := nodes.Size(l, 0); n != 1 || e != api.OK {
			t.Errorf("Size(%v, 0) is %d, %v", l, n, e)
		}
		if n, e := nodes.Size(l, len(l)-1); n != len(l) || e != api.OK {
			t.Errorf("Size(%v, %d) is %d, %v", l, len(l)-1, n, e)
		}
		if part, e := nodes.Part(l, 0); !slices.Equal(part, l[:1]) || e != api.OK {
			t.Errorf("Part(%v, 0) is %v, %v", l, part, e)
		}
		if part, e := nodes.Part(l, len(l)-1); !slices.Equal(part, l) || e != api.OK {
			t.Errorf("Part(%v, %d) is %v, %v", l, len(l)-1, part, e)
		}
	}
}

// P4.2: expressions that differ in At alone are the same.
func TestSamePlaces(t *testing.T) {
	r := rand.New(rand.NewSource(5))
	for _, whole := range append(randomTrees(6)[:200], goodTrees()...) {
		l := whole.list()
		checkSame(t, l, slices.Clone(l), true)
		checkSame(t, l, l, true)
		for at := range l {
			for _, place := range []int{0, 400, (l[at].At + 1) % 401} {
				other := slices.Clone(l)
				other[at].At = place
				checkSame(t, l, other, true)
			}
		}
		other := slices.Clone(l)
		for i := range other {
			other[i].At = r.Intn(401)
		}
		checkSame(t, l, other, true)
	}
}

// P4.2: expressions that differ in kinds, numbers or parts are not the same.
func TestNotSame(t *testing.T) {
	all := []tree{
		number(0), number(1), number(math.MaxInt64), leaf(2), leaf(3), leaf(4), one(5, leaf(2)), one(6, leaf(2)), one(5, leaf(3)), one(5, number(0)), one(5, number(1)), one(5, one(5, leaf(2))),
		two(7, leaf(2), leaf(3)), two(7, leaf(3), leaf(2)), two(8, leaf(2), leaf(3)), two(7, leaf(2), leaf(2)),
		two(9, two(9, leaf(2), leaf(2)), leaf(2)), two(9, leaf(2), two(9, leaf(2), leaf(2))),
		two(9, one(5, leaf(2)), leaf(2)), two(9, leaf(2), one(5, leaf(2))), one(5, two(9, leaf(2), leaf(2))),
		example(), two(7, two(8, leaf(4), number(2)), leaf(2)), chain(3), chain(4), leftComb(3), leftComb(5), rightComb(5), bushy(30), bushy(60),
	}
	for kind := uint8(1); kind <= 19; kind++ {
		all = append(all, leaves(kind, leaf(4), leaf(4)))
	}
	for _, a := range all {
		for _, b := range all {
			// Some trees are in the list twice.
			checkSame(t, a.list(), b.list(), slices.Equal(withoutPlaces(a), withoutPlaces(b)))
		}
	}
}

// withoutPlaces returns the nodes of a tree, all of them at 0.
func withoutPlaces(whole tree) []api.Node {
	l := whole.list()
	for i := range l {
		l[i].At = 0
	}
	return l
}

// P4.2: the error of the first expression that has one is returned, even if they have other lengths.
func TestSameErrors(t *testing.T) {
	many, bad, deep, good := bushy(61).list(), list(api.Node{}), chain(21).list(), example().list()
	lists := map[api.Errno][]api.Node{api.ErrMany: many, api.ErrBad: bad, api.ErrDeep: deep}
	for first, a := range lists {
		for _, b := range lists {
			checkNotCompared(t, a, b, first)
		}
		checkNotCompared(t, a, good, first)
		checkNotCompared(t, good, a, first)
	}
	checkNotCompared(t, nil, nil, api.ErrBad)
}

// P4.3: the number of parts has to be that of the kind.
func TestNodeParts(t *testing.T) {
	good := example().list()
	for k := range 256 {
		kind := uint8(k)
		for n := range 5 {
			parts := slices.Repeat([][]api.Node{good}, n)
			if n != partsOf(kind) {
				checkNoNode(t, api.ErrArg, kind, 0, 0, parts...)
				continue
			}
			if l, e := nodes.Node(kind, 0, 0, parts...); len(l) != 1+n*len(good) || e != api.OK {
				t.Errorf("Node(%d, 0, 0, %v) is %v, %v", kind, parts, l, e)
			}
		}
	}
	checkNoNode(t, api.ErrArg, 8, 0, 0, slices.Repeat([][]api.Node{good}, 1000)...)
}

// P4.3: N of a number is at least 0, and that of another kind is 0; At is from 0 to 400.
func TestNodeNumbers(t *testing.T) {
	good := example().list()
	for kind := uint8(1); kind <= 19; kind++ {
		parts := slices.Repeat([][]api.Node{good}, partsOf(kind))
		for _, n := range []int64{0, 1, 7, math.MaxInt64, -1, math.MinInt64} {
			if n != 0 && (n < 0 || kind != 1) {
				checkNoNode(t, api.ErrArg, kind, n, 0, parts...)
			} else if l, e := nodes.Node(kind, n, 3, parts...); e != api.OK || l[len(l)-1].N != n {
				t.Errorf("Node(%d, %d, 3, %v) is %v, %v", kind, n, parts, l, e)
			}
		}
		for _, at := range []int{0, 1, 399, 400} {
			if l, e := nodes.Node(kind, 0, at, parts...); e != api.OK || l[len(l)-1].At != at {
				t.Errorf("Node(%d, 0, %d, %v) is %v, %v", kind, at, parts, l, e)
			}
		}
		for _, at := range []int{-1, 401, 1 << 32, math.MaxInt, math.MinInt} {
			checkNoNode(t, api.ErrArg, kind, 0, at, parts...)
		}
	}
}

// P4.3: the errors come in their order: ErrArg, that of the first part that has one, ErrMany, ErrDeep.
func TestNodeErrorOrder(t *testing.T) {
	many, bad, deep, good := bushy(61).list(), list(api.Node{}), chain(21).list(), example().list()
	lists := map[api.Errno][]api.Node{api.ErrMany: many, api.ErrBad: bad, api.ErrDeep: deep}
	for first, a := range lists {
		checkNoNode(t, api.ErrArg, 8, 1, 0, a, good)
		checkNoNode(t, api.ErrArg, 8, 0, 401, good, a)
		checkNoNode(t, api.ErrArg, 8, 0, 0, a)
		checkNoNode(t, api.ErrArg, 5, 0, 0, a, a)
		checkNoNode(t, api.ErrArg, 1, 0, 0, a)
		checkNoNode(t, api.ErrArg, 0, 0, 0, a)
		checkNoNode(t, api.ErrArg, 20, 0, 0, a, a)
		for _, b := range lists {
			checkNoNode(t, first, 8, 0, 0, a, b)
		}
		for _, b := range [][]api.Node{good, bushy(60).list(), chain(20).list()} {
			checkNoNode(t, first, 8, 0, 0, a, b)
			checkNoNode(t, first, 8, 0, 0, b, a)
		}
	}
	checkNoNode(t, api.ErrBad, 5, 0, 0, nil)
	checkNoNode(t, api.ErrBad, 8, 0, 0, nil, good)
	checkNoNode(t, api.ErrBad, 8, 0, 0, good, nil)
}

// P4.3: no more than 60 nodes, and no deeper than 20, with ErrMany first.
func TestNodeLimits(t *testing.T) {
	checkTree(t, two(8, bushy(29), bushy(30)))
	checkTree(t, two(8, bushy(58), leaf(2)))
	checkTree(t, two(8, leaf(2), bushy(58)))
	checkTree(t, one(5, bushy(59)))
	checkNoNode(t, api.ErrMany, 8, 0, 0, bushy(30).list(), bushy(30).list())
	checkNoNode(t, api.ErrMany, 8, 0, 0, bushy(59).list(), leaf(2).list())
	checkNoNode(t, api.ErrMany, 8, 0, 0, leaf(2).list(), bushy(59).list())
	checkNoNode(t, api.ErrMany, 8, 0, 0, bushy(60).list(), bushy(60).list())
	checkNoNode(t, api.ErrMany, 5, 0, 0, bushy(60).list())

	checkTree(t, one(5, chain(19)))
	checkTree(t, two(8, chain(19), chain(19)))
	checkNoNode(t, api.ErrDeep, 5, 0, 0, chain(20).list())
	checkNoNode(t, api.ErrDeep, 8, 0, 0, chain(20).list(), leaf(2).list())
	checkNoNode(t, api.ErrDeep, 8, 0, 0, leaf(2).list(), rightComb(20).list())
	checkNoNode(t, api.ErrDeep, 8, 0, 0, chain(20).list(), leftComb(20).list())
	checkNoNode(t, api.ErrMany, 8, 0, 0, rightComb(20).list(), leftComb(20).list())
	checkNoNode(t, api.ErrMany, 8, 0, 0, rightComb(20).list(), bushy(40).list())
}

// made returns the expression of a node, made by Node of those of its parts, which Part gives.
func made(t *testing.T, l []api.Node) []api.Node {
	t.Helper()
	whole := l[len(l)-1]
	n, e := nodes.Parts(whole.Kind)
	if e != api.OK {
		t.Fatalf("Parts(%d) is %v", whole.Kind, e)
	}
	var parts [][]api.Node
	for _, at := range []int{whole.A, whole.B}[:n] {
		part, e := nodes.Part(l, at)
		if e != api.OK {
			t.Fatalf("Part(%v, %d) is %v", l, at, e)
		}
		parts = append(parts, made(t, part))
	}
	result, e := nodes.Node(whole.Kind, whole.N, whole.At, parts...)
	if e != api.OK {
		t.Fatalf("Node of %v is %v", l, e)
	}
	return result
}

// P4.4: each expression is made of parts, from nodes without parts on.
func TestMadeOfParts(t *testing.T) {
	for _, whole := range append(randomTrees(7)[:200], goodTrees()...) {
		l := whole.list()
		if again := made(t, l); !slices.Equal(again, l) {
			t.Errorf("%v is made as %v", l, again)
		}
	}
}

// P4.4: a node has one more node than its parts together, and a depth of at most its size.
func TestSizesAddUp(t *testing.T) {
	for _, whole := range append(randomTrees(8)[:200], goodTrees()...) {
		l := whole.list()
		for at, node := range l {
			sum := 1
			for _, part := range []int{node.A, node.B}[:partsOf(node.Kind)] {
				n, _ := nodes.Size(l, part)
				sum += n
			}
			size, e := nodes.Size(l, at)
			if size != sum || e != api.OK {
				t.Errorf("Size(%v, %d) is %d, %v, want %d", l, at, size, e, sum)
			}
			part, _ := nodes.Part(l, at)
			if depth, e := nodes.Depth(part); depth > size || depth < 1 || len(part) != size || e != api.OK {
				t.Errorf("Depth(%v) is %d, %v, with the size %d", part, depth, e, size)
			}
		}
	}
}

// overlap reports whether two lists share memory, up to their capacities.
func overlap(a, b []api.Node) bool {
	if cap(a) == 0 || cap(b) == 0 {
		return false
	}
	a, b = a[:cap(a)], b[:cap(b)]
	first, other := uintptr(unsafe.Pointer(&a[0])), uintptr(unsafe.Pointer(&b[0]))
	size := unsafe.Sizeof(a[0])
	return first < other+uintptr(len(b))*size && other < first+uintptr(len(a))*size
}

// P1 (R2): arguments are not changed, the memory behind the length of a list among them, and results share no memory with them.
func TestArgumentsStay(t *testing.T) {
	for _, whole := range append(goodTrees(), chain(21), bushy(61), tree{}) {
		l := whole.list()
		given := append(slices.Clone(l), slices.Repeat(list(api.Node{Kind: 99, N: -5, A: -5, B: -5, At: -5}), 130)...)
		kept := slices.Clone(given)
		arg := given[:len(l)]
		var results [][]api.Node
		nodes.Check(arg)
		nodes.Depth(arg)
		nodes.Same(arg, arg)
		for at := range l {
			nodes.Size(arg, at)
			part, _ := nodes.Part(arg, at)
			results = append(results, part)
		}
		up, _ := nodes.Node(5, 0, 1, arg)
		both, _ := nodes.Node(8, 0, 1, arg, arg)
		behind, _ := nodes.Node(8, 0, 1, arg[:1], arg)
		results = append(results, up, both, behind)
		if !slices.Equal(given, kept) {
			t.Errorf("%v was changed to %v", kept, given)
		}
		for i, result := range results {
			if overlap(result, given) {
				t.Errorf("the result %v has memory of the argument", result)
			}
			for _, other := range results[:i] {
				if overlap(result, other) {
					t.Errorf("the results %v and %v share memory", result, other)
				}
			}
		}
	}
}

// P1 (R2): the list of parts is not changed.
func TestListOfPartsStays(t *testing.T) {
	a, b, c := leaf(2).list(), example().list(), leaf(3).list()
	parts := [][]api.Node{a, b, c}
	for n := range 4 {
		nodes.Node(8, 0, 0, parts[:n]...)
		if &parts[0][0] != &a[0] || &parts[1][0] != &b[0] || &parts[2][0] != &c[0] || len(parts[0]) != 1 || len(parts[1]) != 5 || len(parts[2]) != 1 {
			t.Errorf("the parts are %v", parts)
		}
	}
}

// P1 (R2): a result that is changed, or appended to, changes none that is returned later.
func TestResultsAreNew(t *testing.T) {
	for range 3 {
		sum, e := nodes.Node(8, 0, 2, leaf(4).list(), number(7).list())
		if want := placed(2, two(8, leaf(4), number(7))).list(); !slices.Equal(sum, want) || e != api.OK {
			t.Fatalf("the sum is %v, %v", sum, e)
		}
		part, e := nodes.Part(sum, 1)
		if !slices.Equal(part, number(7).list()) || e != api.OK {
			t.Fatalf("the part is %v, %v", part, e)
		}
		_ = append(part, api.Node{Kind: 77})
		part[0].N = 9
		if sum[1].N != 7 {
			t.Errorf("the sum is %v", sum)
		}
		_ = append(sum[:1], api.Node{Kind: 78}, api.Node{Kind: 79})
	}
}
