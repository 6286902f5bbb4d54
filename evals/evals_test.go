package evals_test

import (
	"math"
	"math/rand"
	"slices"
	"testing"

	"tailwater/api"
	"tailwater/evals"
	"tailwater/exprs"
	"tailwater/ints"
	"tailwater/kinds"
	"tailwater/lexer"
	"tailwater/nodes"
)

const (
	greatest = int64(math.MaxInt64)
	least    = int64(math.MinInt64)
)

// corners returns numbers at which wrapping, shifting and comparing may go wrong.
func corners() []int64 {
	return []int64{least, least + 1, -1 << 32, -65, -64, -63, -5, -1, 0, 1, 2, 5, 62, 63, 64, 65, 1 << 32, 1 << 62, greatest - 1, greatest}
}

// record returns a record of corners.
func record(r *rand.Rand) api.Record {
	l := corners()
	return api.Record{Key: l[r.Intn(len(l))], Time: l[r.Intn(len(l))], Value: l[r.Intn(len(l))]}
}

// some are records of several keys, times and values.
func some() []api.Record {
	return []api.Record{{}, {Key: 3, Time: 10, Value: -4}, {Key: -4, Time: 3, Value: 10}, {Key: 1, Time: 1, Value: 1}, {Key: least, Time: -1, Value: greatest}, {Key: greatest, Time: least, Value: 64}}
}

// parsed returns the expression of a text.
func parsed(t *testing.T, s string) []api.Node {
	t.Helper()
	l, _, e := lexer.All(s)
	if e != api.OK {
		t.Fatalf("lexer.All(%q) is %v", s, e)
	}
	x, at, e := exprs.Parse(l, 0)
	if e != api.OK || at != len(l) {
		t.Fatalf("Parse(%q) is %d, %v", s, at, e)
	}
	return x
}

// made returns the expression of a kind and its parts, or none if there are too many nodes or a part is none.
func made(kind uint8, n int64, parts ...[]api.Node) []api.Node {
	l, _ := nodes.Node(kind, n, 0, parts...)
	return l
}

// chain returns an expression in so many nodes of a kind with one part.
func chain(kind uint8, n int, l []api.Node) []api.Node {
	for range n {
		l = made(kind, 0, l)
	}
	return l
}

// sums returns the sum of so many parts of an expression, a power of 2, added in pairs.
func sums(n int, l []api.Node) []api.Node {
	if n == 1 {
		return l
	}
	return made(api.NoAdd, 0, sums(n/2, l), sums(n/2, l))
}

// partsOf returns how many parts a kind has, as the chapter of layer 4 tells it.
func partsOf(kind uint8) int {
	switch kind {
	case 1, 2, 3, 4:
		return 0
	case 5, 6:
		return 1
	}
	return 2
}

// reference returns the values of all nodes of a typed expression, told by a stack, and not by indices.
func reference(l []api.Node, r api.Record) []int64 {
	var all, stack []int64
	for _, node := range l {
		count := partsOf(node.Kind)
		parts := append(slices.Clone(stack[len(stack)-count:]), 0, 0)
		stack = stack[:len(stack)-count]
		n := []int64{1: node.N, 2: r.Key, 3: r.Time, 4: r.Value, 19: 0}[node.Kind]
		if count > 0 {
			n, _ = ints.Do(node.Kind, parts[0], parts[1])
		}
		all, stack = append(all, n), append(stack, n)
	}
	return all
}

// has reports whether a list has a node of a kind.
func has(l []api.Node, kind uint8) bool {
	return slices.ContainsFunc(l, func(node api.Node) bool { return node.Kind == kind })
}

// checkValues fails the test unless the nodes of an expression have these values for a record, and the expression that of the last one.
func checkValues(t *testing.T, l []api.Node, r api.Record, want ...int64) {
	t.Helper()
	if all, e := evals.All(l, r); !slices.Equal(all, want) || e != api.OK {
		t.Fatalf("All(%v, %v) is %v, %v, want %v", l, r, all, e, want)
	}
	if n, e := evals.Of(l, r); n != want[len(want)-1] || e != api.OK {
		t.Fatalf("Of(%v, %v) is %d, %v, want %d", l, r, n, e, want[len(want)-1])
	}
}

// checkUses fails the test unless an expression uses just these.
func checkUses(t *testing.T, l []api.Node, wantKey, wantTime, wantValue bool) {
	t.Helper()
	if key, time, value, e := evals.Uses(l); key != wantKey || time != wantTime || value != wantValue || e != api.OK {
		t.Fatalf("Uses(%v) is %v, %v, %v, %v, want %v, %v, %v", l, key, time, value, e, wantKey, wantTime, wantValue)
	}
}

// check fails the test unless all functions return what the reference says.
func check(t *testing.T, l []api.Node, r api.Record) {
	t.Helper()
	checkValues(t, l, r, reference(l, r)...)
	checkUses(t, l, has(l, 2), has(l, 3), has(l, 4))
}

// checkError fails the test unless all functions return this error, and else nothing, for all records.
func checkError(t *testing.T, l []api.Node, want api.Errno) {
	t.Helper()
	for _, r := range some() {
		if n, e := evals.Of(l, r); n != 0 || e != want {
			t.Errorf("Of(%v, %v) is %d, %v, want %v", l, r, n, e, want)
		}
		if all, e := evals.All(l, r); len(all) != 0 || e != want {
			t.Errorf("All(%v, %v) is %v, %v, want %v", l, r, all, e, want)
		}
	}
	if key, time, value, e := evals.Uses(l); key || time || value || e != want {
		t.Errorf("Uses(%v) is %v, %v, %v, %v, want %v", l, key, time, value, e, want)
	}
}

// random returns an expression that is a truth value, or a number, and has at most a depth, which is at least 2; or none if it became too large.
func random(r *rand.Rand, depth int, truth bool) []api.Node {
	numbers, truths := []uint8{1, 2, 3, 4, 5, 7, 8, 9, 10, 11}, []uint8{6, 12, 13, 14, 15, 16, 17, 18, 19}
	kind := numbers[r.Intn(len(numbers))]
	if depth <= 2 {
		kind = uint8(1 + r.Intn(4))
	}
	if truth {
		kind = truths[r.Intn(len(truths))]
		// Parts that are truth values have a depth of at least 2 themselves.
		if depth < 3 {
			kind = uint8(12 + r.Intn(6))
		}
	}
	logical := kind == 6 || kind >= 18 || (kind == 16 || kind == 17) && depth > 2 && r.Intn(2) == 0
	var parts [][]api.Node
	for range partsOf(kind) {
		parts = append(parts, random(r, depth-1, logical))
	}
	var n int64
	if kind == 1 {
		n = r.Int63() >> r.Intn(63)
	}
	return made(kind, n, parts...)
}

// randoms returns random expressions, every other one of them a truth value.
func randoms(seed int64) [][]api.Node {
	r := rand.New(rand.NewSource(seed))
	var all [][]api.Node
	for len(all) < 1000 {
		if l := random(r, 2+len(all)%9, len(all)%2 == 1); len(l) > 0 {
			all = append(all, l)
		}
	}
	return all
}

// P7.1, P7.2: the examples of the chapter.
func TestExamples(t *testing.T) {
	r := api.Record{Key: 3, Time: 10, Value: -4}
	checkValues(t, parsed(t, "v + 2 * k"), r, -4, 2, 3, 6, 2)
	checkValues(t, parsed(t, "t >> 1"), r, 10, 1, 5)
	checkValues(t, parsed(t, "not (v < 0)"), r, -4, 0, 1, 0)
	checkValues(t, parsed(t, "v < k"), r, -4, 3, 1)
	checkUses(t, parsed(t, "v + 2 * k"), true, false, true)
	checkUses(t, parsed(t, "t >> 1"), false, true, false)
	checkUses(t, parsed(t, "not (v < 0)"), false, false, true)
	checkUses(t, parsed(t, "v < k"), true, false, true)
}

// P7.1: ordinary expressions for records of several keys, times and values.
func TestOrdinary(t *testing.T) {
	for _, x := range []struct {
		s    string
		want []int64
	}{
		{"k", []int64{0, 3, -4, 1}},
		{"t", []int64{0, 10, 3, 1}},
		{"v", []int64{0, -4, 10, 1}},
		{"12", []int64{12, 12, 12, 12}},
		{"- k", []int64{0, -3, 4, -1}},
		{"v - t - k", []int64{0, -17, 11, -1}},
		{"v - (t - k)", []int64{0, -11, 3, 1}},
		{"(v + 2) * k", []int64{0, -6, -48, 3}},
		{"k * t + v", []int64{0, 26, -2, 2}},
		{"- v - 1", []int64{-1, 3, -11, -2}},
		{"t << 2 >> 1", []int64{0, 20, 6, 2}},
		{"v >> 1", []int64{0, -2, 5, 0}},
		{"1 << t - 1", []int64{least, 512, 4, 1}},
		{"k < t", []int64{0, 1, 1, 0}},
		{"k <= t", []int64{1, 1, 1, 1}},
		{"k > v", []int64{0, 1, 0, 0}},
		{"k >= v", []int64{1, 1, 0, 1}},
		{"t = 10", []int64{0, 1, 0, 0}},
		{"t != 10", []int64{1, 0, 1, 1}},
		{"k < 0 and v = 10", []int64{0, 0, 1, 0}},
		{"k < 0 or v < 0", []int64{0, 1, 1, 0}},
		{"not (k < 0 or v < 0)", []int64{1, 0, 0, 1}},
		{"not (k = 1) and not (t = 3)", []int64{1, 1, 0, 0}},
	} {
		l := parsed(t, x.s)
		for i, want := range x.want {
			if n, e := evals.Of(l, some()[i]); n != want || e != api.OK {
				t.Errorf("Of %q for %v is %d, %v, want %d", x.s, some()[i], n, e, want)
			}
		}
	}
}

// P7.1, P7.2: a whole that is one node: N, the key, the time, or the value, at both ends of the numbers.
func TestOneNode(t *testing.T) {
	for _, n := range corners() {
		for _, other := range corners() {
			checkValues(t, made(api.NoKey, 0), api.Record{Key: n, Time: other, Value: other}, n)
			checkValues(t, made(api.NoTime, 0), api.Record{Key: other, Time: n, Value: other}, n)
			checkValues(t, made(api.NoValue, 0), api.Record{Key: other, Time: other, Value: n}, n)
			if n >= 0 {
				checkValues(t, made(api.NoNumber, n), api.Record{Key: other, Time: other, Value: other}, n)
			}
		}
	}
	checkUses(t, made(api.NoNumber, 7), false, false, false)
	checkUses(t, made(api.NoKey, 0), true, false, false)
	checkUses(t, made(api.NoTime, 0), false, true, false)
	checkUses(t, made(api.NoValue, 0), false, false, true)
}

// P7.1: each operator at the ends of the numbers, with the key as its first part and the value as its second one.
func TestOperators(t *testing.T) {
	for _, x := range []struct {
		s          string
		k, v, want int64
	}{
		{"- k", 7, 1, -7}, {"- k", -7, 1, 7}, {"- k", 0, 1, 0}, {"- k", greatest, 1, -greatest}, {"- k", least, 1, least},
		{"k * v", -4, 5, -20}, {"k * v", greatest, 2, -2}, {"k * v", least, -1, least}, {"k * v", greatest, greatest, 1}, {"k * v", 1 << 32, 1 << 32, 0}, {"k * v", 0, least, 0},
		{"k + v", 2, 3, 5}, {"k + v", greatest, 1, least}, {"k + v", least, -1, greatest}, {"k + v", least, least, 0},
		{"k - v", 2, 3, -1}, {"k - v", least, 1, greatest}, {"k - v", greatest, -1, least}, {"k - v", 0, least, least},
		{"k << v", 5, 2, 20}, {"k << v", 1, 63, least}, {"k << v", 1, 64, 1}, {"k << v", 1, 65, 2}, {"k << v", 1, greatest, least}, {"k << v", 7, least, 7}, {"k << v", 1, -1, least}, {"k << v", 1, -63, 2}, {"k << v", 1, -64, 1}, {"k << v", 3, 1 << 32, 3}, {"k << v", least, 1, 0},
		{"k >> v", 20, 2, 5}, {"k >> v", -5, 1, -3}, {"k >> v", -5, -1, -1}, {"k >> v", 5, -1, 0}, {"k >> v", 9, 64, 9}, {"k >> v", 9, 65, 4}, {"k >> v", -9, -63, -5}, {"k >> v", least, 63, -1}, {"k >> v", greatest, 63, 0}, {"k >> v", -7, greatest, -1}, {"k >> v", -7, least, -7},
		{"k < v", 1, 2, 1}, {"k < v", 2, 2, 0}, {"k < v", 3, 2, 0}, {"k < v", least, greatest, 1}, {"k < v", greatest, least, 0},
		{"k <= v", 1, 2, 1}, {"k <= v", 2, 2, 1}, {"k <= v", 3, 2, 0}, {"k <= v", least, greatest, 1}, {"k <= v", greatest, least, 0},
		{"k > v", 1, 2, 0}, {"k > v", 2, 2, 0}, {"k > v", 3, 2, 1}, {"k > v", least, greatest, 0}, {"k > v", greatest, least, 1},
		{"k >= v", 1, 2, 0}, {"k >= v", 2, 2, 1}, {"k >= v", 3, 2, 1}, {"k >= v", least, greatest, 0}, {"k >= v", greatest, least, 1},
		{"k = v", 1, 2, 0}, {"k = v", 2, 2, 1}, {"k = v", least, least, 1}, {"k = v", least, greatest, 0}, {"k = v", 0, 1 << 32, 0},
		{"k != v", 1, 2, 1}, {"k != v", 2, 2, 0}, {"k != v", least, least, 0}, {"k != v", least, greatest, 1}, {"k != v", 0, 1 << 32, 1},
	} {
		r := api.Record{Key: x.k, Time: 99, Value: x.v}
		if n, e := evals.Of(parsed(t, x.s), r); n != x.want || e != api.OK {
			t.Errorf("Of %q for %v is %d, %v, want %d", x.s, r, n, e, x.want)
		}
	}
}

// P7.1: operators of truth values, "=" and its other among them, for all pairs.
func TestTruths(t *testing.T) {
	for _, x := range []struct {
		s    string
		want [4]int64
	}{
		{"not (k < 0)", [4]int64{1, 1, 0, 0}},
		{"not not (k < 0)", [4]int64{0, 0, 1, 1}},
		{"k < 0 and v < 0", [4]int64{0, 0, 0, 1}},
		{"k < 0 or v < 0", [4]int64{0, 1, 1, 1}},
		{"(k < 0) = (v < 0)", [4]int64{1, 0, 0, 1}},
		{"(k < 0) != (v < 0)", [4]int64{0, 1, 1, 0}},
		{"(k < 0) = (not (v < 0))", [4]int64{0, 1, 1, 0}},
		{"not (k < 0) and v < 0", [4]int64{0, 1, 0, 0}},
		{"not (k < 0) or v < 0", [4]int64{1, 1, 0, 1}},
	} {
		l := parsed(t, x.s)
		for i, want := range x.want {
			r := api.Record{Key: -int64(i / 2), Time: 5, Value: -int64(i % 2)}
			if n, e := evals.Of(l, r); n != want || e != api.OK {
				t.Errorf("Of %q for %v is %d, %v, want %d", x.s, r, n, e, want)
			}
		}
	}
}

// P7.1: the values of all nodes stand in the order of the nodes.
func TestOrder(t *testing.T) {
	r := api.Record{Key: 2, Time: 100, Value: -7}
	checkValues(t, parsed(t, "k * t + v"), r, 2, 100, 200, -7, 193)
	checkValues(t, parsed(t, "v - (t - k)"), r, -7, 100, 2, 98, -105)
	checkValues(t, parsed(t, "- - 3"), r, 3, -3, 3)
	checkValues(t, parsed(t, "v < 0 and t = 100"), r, -7, 0, 1, 100, 100, 1, 1)
	checkValues(t, parsed(t, "not (k < v) = (t < 5)"), r, 2, -7, 0, 100, 5, 0, 1, 0)
	// Negatives and "not" behind other nodes, which are no parts of them.
	checkValues(t, parsed(t, "t < - v or not (k = v)"), r, 100, -7, 7, 0, 2, -7, 0, 1, 1)
}

// P7.1, P7.2: each kind with each choice of leaves as its parts, for records of corners.
func TestEachKind(t *testing.T) {
	r := rand.New(rand.NewSource(1))
	leaves := [][]api.Node{made(1, 0), made(1, 63), made(1, greatest), made(2, 0), made(3, 0), made(4, 0), parsed(t, "k < v"), parsed(t, "t = t")}
	seen := map[uint8]bool{}
	for kind := uint8(1); kind <= 19; kind++ {
		for _, a := range leaves {
			for _, b := range leaves {
				l := made(kind, 0, [][]api.Node{a, b}[:partsOf(kind)]...)
				if _, _, e := kinds.Of(l); e != api.OK {
					checkError(t, l, api.ErrType)
					continue
				}
				seen[kind] = true
				for range 30 {
					check(t, l, record(r))
				}
			}
		}
	}
	if len(seen) != 19 {
		t.Errorf("there were the kinds %v", seen)
	}
}

// P7.1, P7.2: random expressions that are typed, for random records.
func TestRandom(t *testing.T) {
	r := rand.New(rand.NewSource(2))
	great := 0
	for _, l := range randoms(3) {
		for range 10 {
			check(t, l, record(r))
		}
		if len(l) > 30 {
			great++
		}
	}
	if great < 50 {
		t.Errorf("%d expressions have more than 30 nodes", great)
	}
}

// P7.1, P7.2: expressions with as many nodes, or as deep, as they may be.
func TestLimits(t *testing.T) {
	v, k := made(4, 0), made(2, 0)
	deep := chain(5, 19, v)
	checkValues(t, deep, api.Record{Value: 4}, 4, -4, 4, -4, 4, -4, 4, -4, 4, -4, 4, -4, 4, -4, 4, -4, 4, -4, 4, -4)
	// A part of 31 nodes, one of 28, and their difference.
	many := made(9, 0, sums(16, v), made(8, 0, chain(5, 11, k), made(8, 0, sums(4, v), sums(4, k))))
	if len(many) != 60 {
		t.Fatalf("there are %d nodes", len(many))
	}
	for _, l := range [][]api.Node{deep, many, chain(6, 18, made(12, 0, v, k)), made(12, 0, chain(5, 18, v), chain(5, 18, k)), made(7, 0, sums(16, k), made(5, 0, made(10, 0, sums(8, v), chain(5, 10, k))))} {
		for _, r := range some() {
			check(t, l, r)
		}
	}
	if n, e := evals.Of(many, api.Record{Key: 10, Value: 3}); n != 48-(-10+12+40) || e != api.OK {
		t.Errorf("Of(many) is %d, %v", n, e)
	}
}

// P7.2: all eight choices, wherever the key, the time and the value stand, and where they do not matter to the value.
func TestUses(t *testing.T) {
	for s, want := range map[string][3]bool{
		"7": {}, "1 + 2 * 3": {}, "not (1 < 2)": {},
		"k": {true}, "1 + k": {true}, "- k": {true}, "k - k": {true}, "0 * k": {true}, "1 < 2 or k < 1": {true}, "1 - (2 - (3 - k))": {true},
		"t": {1: true}, "t << 2": {1: true}, "not (t = t)": {1: true}, "0 * (1 - t)": {1: true}, "t + 1": {1: true},
		"v": {2: true}, "v * v * v": {2: true}, "1 < 0 and v < 0": {2: true}, "- - v": {2: true},
		"k + t": {true, true}, "t + k": {true, true}, "1 + (t - 2) * - k": {true, true},
		"k + v": {true, false, true}, "v - 1 < k": {true, false, true},
		"t * v": {1: true, 2: true}, "v = 1 or t = 2": {1: true, 2: true},
		"k + t + v": {true, true, true}, "v < 1 and t < 1 and k < 1": {true, true, true}, "1 + (k - (t - (v - 2)))": {true, true, true},
	} {
		checkUses(t, parsed(t, s), want[0], want[1], want[2])
	}
}

// P7.1, P7.2: the error that Check of layer 4 returns comes first.
func TestCheckErrors(t *testing.T) {
	v := made(4, 0)
	many := slices.Repeat(v, 61)
	for _, l := range [][]api.Node{many, slices.Repeat([]api.Node{{}}, 61), slices.Repeat(v, 1000)} {
		checkError(t, l, api.ErrMany)
	}
	for _, l := range [][]api.Node{
		nil, {}, many[:2], many[:60], {{Kind: 0}}, {{Kind: 20}}, {{Kind: 255}},
		{{Kind: 1, N: -1}}, {{Kind: 1, N: least}}, {{Kind: 4, N: 1}}, {{Kind: 2, At: -1}}, {{Kind: 3, At: 401}}, {{Kind: 1, A: 1}}, {{Kind: 4, B: -1}},
		{{Kind: 5}}, {{Kind: 6, A: -1}}, {{Kind: 8}}, {{Kind: 8, A: math.MinInt, B: math.MaxInt}}, {{Kind: 4}, {Kind: 5, A: 1}}, {{Kind: 4}, {Kind: 5, B: 1}}, {{Kind: 4}, {Kind: 8}}, {{Kind: 4}, {Kind: 8, A: -1}},
		{{Kind: 4}, {Kind: 2}, {Kind: 8, A: 1, B: 0}}, {{Kind: 4}, {Kind: 2}, {Kind: 8, A: 1, B: 1}}, {{Kind: 4}, {Kind: 2}, {Kind: 8, A: 0, B: 3}}, {{Kind: 4}, {Kind: 2}, {Kind: 8, A: 0, B: 60}},
		{{Kind: 4}, {Kind: 2}, {Kind: 20, A: 0, B: 1}},
	} {
		checkError(t, l, api.ErrBad)
	}
	for _, n := range []int{21, 59} {
		checkError(t, tower(5, n), api.ErrDeep)
	}
}

// tower returns a value with so many nodes of a kind around it, which may be too deep.
func tower(kind uint8, n int) []api.Node {
	l := []api.Node{{Kind: 4}}
	for at := range n {
		l = append(l, api.Node{Kind: kind, A: at})
	}
	return l
}

// P7.1, P7.2: ErrType unless the expression is typed, by the whole or by any part.
func TestTypeErrors(t *testing.T) {
	for _, s := range []string{
		"not v", "not 1", "- (v < 1)", "v + (k < 2)", "(k < 2) * v", "v << (k < 1)", "(v < 1) < 2", "1 >= (v < 1)", "v and k", "v and k < 1", "t = 1 or v", "v = (k < 2)", "(k < 2) != v",
		"(not v) and k < 1", "k < 1 or not v", "(v + (k < 2)) < t", "- (v + (k < 2))", "((v < 1) = 2) = (v < 1)", "not not - v", "k < 1 and t - (v = 2) > 3",
	} {
		checkError(t, parsed(t, s), api.ErrType)
	}
}

// P7.1, P7.2: Check's error comes ahead of ErrType, wherever the node that does not fit stands.
func TestCheckAheadOfType(t *testing.T) {
	misfit := parsed(t, "not v")
	checkError(t, misfit, api.ErrType)
	checkError(t, slices.Concat(misfit, []api.Node{{Kind: 20, A: 1}}), api.ErrBad)
	checkError(t, slices.Concat(misfit, misfit), api.ErrBad)
	for at := range misfit {
		l := slices.Clone(misfit)
		l[at].At = 401
		checkError(t, l, api.ErrBad)
	}
	checkError(t, tower(6, 19), api.ErrType)
	checkError(t, tower(6, 20), api.ErrDeep)
	checkError(t, tower(6, 59), api.ErrDeep)
	checkError(t, tower(6, 60), api.ErrMany)
}

// P7.1, P7.2: lists of any nodes: the error of Check, or of kinds, is that of all functions.
func TestAnyLists(t *testing.T) {
	r := rand.New(rand.NewSource(4))
	count := map[api.Errno]int{}
	for range 20000 {
		l := make([]api.Node, r.Intn(6))
		for i := range l {
			l[i] = api.Node{Kind: uint8(r.Intn(21)), N: int64(r.Intn(20) / 19), At: r.Intn(401)}
			switch {
			case l[i].Kind == 5 || l[i].Kind == 6:
				l[i].A = i - 1
			case l[i].Kind >= 7:
				l[i].A, l[i].B = r.Intn(i+1), i-1
			}
		}
		e := nodes.Check(l)
		if e == api.OK {
			_, _, e = kinds.Of(l)
		}
		count[e]++
		if e == api.OK {
			check(t, l, record(r))
		} else {
			checkError(t, l, e)
		}
	}
	if count[api.OK] < 100 || count[api.ErrBad] < 100 || count[api.ErrType] < 20 {
		t.Errorf("there were %v", count)
	}
}

// P7.3: the value of a node is that of its expression, and what its operator gives for the values of its parts.
func TestParts(t *testing.T) {
	r := rand.New(rand.NewSource(5))
	for _, l := range randoms(6) {
		given := record(r)
		all, e := evals.All(l, given)
		if len(all) != len(l) || e != api.OK {
			t.Fatalf("All(%v, %v) is %v, %v", l, given, all, e)
		}
		for at, node := range l {
			part, _ := nodes.Part(l, at)
			if n, e := evals.Of(part, given); n != all[at] || e != api.OK {
				t.Fatalf("Of(%v, %v) is %d, %v, want %d", part, given, n, e, all[at])
			}
			if partsOf(node.Kind) == 0 {
				continue
			}
			var second int64
			if partsOf(node.Kind) == 2 {
				second = all[node.B]
			}
			if n, e := ints.Do(node.Kind, all[node.A], second); n != all[at] || e != api.OK {
				t.Fatalf("the node %d of %v is %d, and its operator gives %d, %v", at, l, all[at], n, e)
			}
		}
	}
}

// P7.3: a truth value is 0 or 1.
func TestTruthValues(t *testing.T) {
	r := rand.New(rand.NewSource(7))
	count := map[int64]int{}
	for _, l := range randoms(8) {
		truths, _ := kinds.All(l)
		all, _ := evals.All(l, record(r))
		for at, truth := range truths {
			if truth && all[at] != 0 && all[at] != 1 {
				t.Fatalf("the truth value %d of %v is %d", at, l, all[at])
			}
			if truth {
				count[all[at]]++
			}
		}
	}
	if count[0] < 100 || count[1] < 100 {
		t.Errorf("there were %v", count)
	}
}

// P7.3: what an expression does not use does not matter.
func TestUnused(t *testing.T) {
	r := rand.New(rand.NewSource(9))
	changed := 0
	for _, l := range randoms(10) {
		key, time, value, e := evals.Uses(l)
		if e != api.OK {
			t.Fatalf("Uses(%v) is %v", l, e)
		}
		for range 10 {
			given, other := record(r), record(r)
			want, _ := evals.All(l, given)
			if key {
				other.Key = given.Key
			}
			if time {
				other.Time = given.Time
			}
			if value {
				other.Value = given.Value
			}
			checkValues(t, l, other, want...)
			if other != given {
				changed++
			}
		}
	}
	if changed < 1000 {
		t.Errorf("%d records were changed", changed)
	}
}

// P7.3: an expression that uses nothing has the same value for all records.
func TestUsesNothing(t *testing.T) {
	for s, want := range map[string]int64{
		"0": 0, "7": 7, "9223372036854775807": greatest, "- 9223372036854775807 - 1": least, "9223372036854775807 + 1": least, "1 + 2 * 3": 7, "1 << 65": 2, "- 5 >> 1": -3, "1 << - 1": least, "1 < 2": 1, "not (1 < 2)": 0, "(1 < 2) = (2 < 1)": 0,
	} {
		l := parsed(t, s)
		checkUses(t, l, false, false, false)
		for _, r := range some() {
			if n, e := evals.Of(l, r); n != want || e != api.OK {
				t.Errorf("Of %q for %v is %d, %v, want %d", s, r, n, e, want)
			}
		}
	}
	for _, l := range randoms(11) {
		for at := range l {
			if kind := l[at].Kind; kind >= 2 && kind <= 4 {
				l[at].Kind = 1
			}
		}
		checkUses(t, l, false, false, false)
		want, _ := evals.All(l, api.Record{})
		for _, r := range some() {
			checkValues(t, l, r, want...)
		}
	}
}

// P7.1, P7.2: where nodes stand does not matter.
func TestPlacesDoNotMatter(t *testing.T) {
	r := rand.New(rand.NewSource(12))
	for _, l := range randoms(13) {
		given := record(r)
		want := reference(l, given)
		for at := range l {
			l[at].At = r.Intn(401)
		}
		checkValues(t, l, given, want...)
	}
}

// P1 (R2): arguments are not changed, the memory behind the length of a list among them, and this memory does not matter.
func TestArgumentsStay(t *testing.T) {
	behind := slices.Concat(parsed(t, "k < t"), slices.Repeat([]api.Node{{Kind: 99, N: -5, A: -5, B: -5, At: -5}}, 70))
	for _, l := range [][]api.Node{{}, parsed(t, "v"), parsed(t, "v + 2 * v"), parsed(t, "not (v < 0)"), parsed(t, "not v"), tower(5, 20), tower(5, 60)} {
		given := slices.Concat(l, behind)
		kept := slices.Clone(given)
		if _, _, e := kinds.Of(l); e == api.OK {
			check(t, given[:len(l)], api.Record{Key: 3, Time: 10, Value: -4})
		} else {
			checkError(t, given[:len(l)], e)
		}
		if !slices.Equal(given, kept) {
			t.Errorf("%v was changed to %v", kept, given)
		}
	}
}

// P1 (R2): a result of All that is changed, up to its capacity, changes none that was or is returned.
func TestResultsAreNew(t *testing.T) {
	l, r := parsed(t, "v + 2 * k"), api.Record{Key: 3, Time: 10, Value: -4}
	for range 3 {
		first, _ := evals.All(l, r)
		second, _ := evals.All(l, r)
		for _, all := range [][]int64{first, second} {
			if !slices.Equal(all, []int64{-4, 2, 3, 6, 2}) {
				t.Fatalf("All(%v, %v) is %v", l, r, all)
			}
			all = all[:cap(all)]
			for i := range all {
				all[i] = 77
			}
		}
		checkValues(t, l, r, -4, 2, 3, 6, 2)
	}
}

// P1: nothing is kept from call to call: a record or an expression ahead of a call does not matter to it.
func TestNothingIsKept(t *testing.T) {
	l, bad := parsed(t, "k - v"), parsed(t, "not v")
	for range 3 {
		checkValues(t, l, api.Record{Key: 5, Value: 2}, 5, 2, 3)
		checkError(t, bad, api.ErrType)
		checkUses(t, parsed(t, "t"), false, true, false)
		checkValues(t, l, api.Record{Key: -5, Value: 2}, -5, 2, -7)
		checkUses(t, l, true, false, true)
		checkError(t, nil, api.ErrBad)
	}
}
