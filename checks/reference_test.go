package checks_test

import (
	"math/rand"
	"slices"
	"strconv"
	"strings"

	"tailwater/api"
)

// tree is an expression, told by what a node has as its parts, and not by indices: n is its number, and at its place.
type tree struct {
	kind  uint8
	n     int64
	at    int
	parts []*tree
}

// leaf, one and two return trees of a kind with no parts, one or two, at the place 0.
func leaf(kind uint8) *tree            { return &tree{kind: kind} }
func one(kind uint8, a *tree) *tree    { return &tree{kind: kind, parts: []*tree{a}} }
func two(kind uint8, a, b *tree) *tree { return &tree{kind: kind, parts: []*tree{a, b}} }

// number and truth return a number of one node, and a truth value of three.
func number() *tree { return leaf(api.NoValue) }
func truth() *tree  { return two(api.NoLess, leaf(api.NoValue), leaf(api.NoKey)) }

// chain returns a tree with so many nodes of a kind with one part around another tree.
func chain(kind uint8, n int, whole *tree) *tree {
	for range n {
		whole = one(kind, whole)
	}
	return whole
}

// sums returns a tree of so many numbers, a power of 2, added in pairs.
func sums(n int) *tree {
	if n == 1 {
		return number()
	}
	return two(api.NoAdd, sums(n/2), sums(n/2))
}

// signs are the texts of the kinds from 2 on; takes and gives are what each kind from 1 on takes and gives, as layer 6 tells it: n for a number, t for a truth value, and e for two of either.
var (
	signs = strings.Fields("k t v - not * + - << >> < <= > >= = != and or")
	takes = strings.Fields(". . . . n t nn nn nn nn nn nn nn nn nn ee ee tt tt")
)

const gives = "nnnnntnnnnntttttttt"

// truthful reports whether a tree gives a truth value.
func (whole *tree) truthful() bool { return gives[whole.kind-1] == 't' }

// given returns what the parts of a tree give.
func (whole *tree) given() string {
	all := ""
	for _, part := range whole.parts {
		all += gives[part.kind-1 : part.kind]
	}
	return all
}

// fits reports whether the whole of a tree fits.
func (whole *tree) fits() bool {
	switch want := takes[whole.kind-1]; want {
	case ".":
		return true
	case "ee":
		return whole.given() == "nn" || whole.given() == "tt"
	default:
		return whole.given() == want
	}
}

// each returns the trees of all nodes, in their order.
func (whole *tree) each() []*tree {
	var l []*tree
	for _, part := range whole.parts {
		l = append(l, part.each()...)
	}
	return append(l, whole)
}

// list returns the nodes of a tree, or none.
func (whole *tree) list() []api.Node {
	if whole == nil {
		return nil
	}
	return whole.behind(nil)
}

// behind returns nodes with those of a tree behind them.
func (whole *tree) behind(l []api.Node) []api.Node {
	var ends [2]int
	for i, part := range whole.parts {
		l = part.behind(l)
		ends[i] = len(l) - 1
	}
	return append(l, api.Node{Kind: whole.kind, N: whole.n, A: ends[0], B: ends[1], At: whole.at})
}

// copied returns a tree that shares nothing with another one, its nodes at other places.
func (whole *tree) copied(place func() int) *tree {
	result := &tree{kind: whole.kind, n: whole.n}
	for _, part := range whole.parts {
		result.parts = append(result.parts, part.copied(place))
	}
	result.at = place()
	return result
}

// wrong returns the place of the first node of a tree that does not fit, or of the whole, if it does not give what it is asked for, and whether there is one.
func (whole *tree) wrong(truth bool) (int, bool) {
	for _, node := range whole.each() {
		if !node.fits() {
			return node.at, true
		}
	}
	if whole.truthful() != truth {
		return whole.at, true
	}
	return 0, false
}

// verdictOf returns what Check returns for a query that is valid, whose argument and condition are these trees, or none.
func verdictOf(arg, where *tree) (int, api.Errno) {
	if arg != nil {
		if at, is := arg.wrong(false); is {
			return at, api.ErrType
		}
	}
	if where != nil {
		if at, is := where.wrong(true); is {
			return at, api.ErrType
		}
	}
	return 0, api.OK
}

// fields returns whether a tree uses a field of a record.
func (whole *tree) fields() bool {
	return slices.ContainsFunc(whole.each(), func(node *tree) bool { return node.kind >= 2 && node.kind <= 4 })
}

// written returns a text with that of a tree behind it, and puts all nodes where their tokens are: no tree may be there twice.
func (whole *tree) written(s string) string {
	if len(whole.parts) == 2 {
		s = whole.parts[0].bracketed(s) + " "
	}
	whole.at = len(s)
	if whole.kind == api.NoNumber {
		return s + strconv.FormatInt(whole.n, 10)
	}
	s += signs[whole.kind-2]
	if len(whole.parts) == 0 {
		return s
	}
	return whole.parts[len(whole.parts)-1].bracketed(s + " ")
}

// bracketed returns a text with that of a tree behind it, in brackets if it has parts.
func (whole *tree) bracketed(s string) string {
	if len(whole.parts) == 0 {
		return whole.written(s)
	}
	return whole.written(s+"(") + ")"
}

// random returns a tree of so many nodes, which is mostly not typed.
func random(r *rand.Rand, size int) *tree {
	switch {
	case size == 1:
		kind := uint8(1 + r.Intn(4))
		if kind == api.NoNumber {
			return &tree{kind: kind, n: int64(r.Intn(100))}
		}
		return leaf(kind)
	case size == 2 || r.Intn(4) == 0:
		return one(uint8(5+r.Intn(2)), random(r, size-1))
	}
	first := 1 + r.Intn(size-2)
	return two(uint8(7+r.Intn(13)), random(r, first), random(r, size-1-first))
}

// randomTyped returns a tree that is typed, and a truth value or a number, of at most this depth.
func randomTyped(r *rand.Rand, depth int, truth bool) *tree {
	if depth == 1 || !truth && r.Intn(4) == 0 {
		return random(r, 1)
	}
	for {
		kind := uint8(5 + r.Intn(15))
		want := takes[kind-1]
		if want == "ee" {
			want = []string{"nn", "tt"}[r.Intn(2)]
		}
		// A truth value has a number in it, and so a depth of at least 2.
		if (gives[kind-1] == 't') != truth || depth < 3 && want[0] == 't' {
			continue
		}
		whole := leaf(kind)
		for _, part := range want {
			whole.parts = append(whole.parts, randomTyped(r, depth-1, part == 't'))
		}
		return whole
	}
}

// treeOf returns the tree of a valid expression, or none for no nodes.
func treeOf(l []api.Node) *tree {
	var open []*tree
	for _, node := range l {
		whole := &tree{kind: node.Kind, n: node.N, at: node.At}
		front := len(open)
		switch takes[node.Kind-1] {
		case ".":
		case "n", "t":
			front--
		default:
			front -= 2
		}
		whole.parts = slices.Clone(open[front:])
		open = append(open[:front], whole)
	}
	if len(open) == 0 {
		return nil
	}
	return open[0]
}
