package clauses_test

import (
	"math"
	"math/big"
	"math/rand"
	"slices"
	"testing"

	"tailwater/api"
	"tailwater/clauses"
	"tailwater/nodes"
)

// leaf, one and two return expressions of a kind with no parts, one or two, at the place 0.
func leaf(kind uint8) []api.Node              { return made(kind, 0) }
func one(kind uint8, a []api.Node) []api.Node { return made(kind, 0, a) }
func two(kind uint8, a, b []api.Node) []api.Node {
	return made(kind, 0, a, b)
}

// made returns the expression of a kind and its parts.
func made(kind uint8, n int64, parts ...[]api.Node) []api.Node {
	l, e := nodes.Node(kind, n, 0, parts...)
	if e != api.OK {
		panic("the expression is not valid")
	}
	return l
}

// chain returns an expression in so many negatives.
func chain(n int, l []api.Node) []api.Node {
	for range n {
		l = one(api.NoNeg, l)
	}
	return l
}

// placed returns an expression whose nodes are at other places.
func placed(by int, l []api.Node) []api.Node {
	l = slices.Clone(l)
	for i := range l {
		l[i].At = (l[i].At + by + i) % 401
	}
	return l
}

// full returns an expression of 60 nodes, and one that is 20 deep.
func full() []api.Node {
	l := leaf(api.NoValue)
	for range 4 {
		l = two(api.NoAdd, l, l)
	}
	// 31 nodes, and 15, and the sum of both; then 13 more.
	return chain(13, two(api.NoSub, l, l[:15]))
}
func deepest() []api.Node { return chain(19, leaf(api.NoTime)) }

// tooMany, tooDeep and noWhole return lists for which nodes.Check returns ErrMany, ErrDeep and ErrBad.
func tooMany() []api.Node { return slices.Repeat(leaf(api.NoKey), 61) }
func tooDeep() []api.Node {
	return append(deepest(), api.Node{Kind: api.NoNeg, A: 19})
}
func noWhole() []api.Node { return append(leaf(api.NoKey), leaf(api.NoKey)...) }

// expression is a list of nodes, and the error that it has where an expression has to be.
type expression struct {
	l []api.Node
	e api.Errno
}

// expressions are some that are valid, their kinds right or not, and one for each error.
func expressions() []expression {
	k, v := leaf(api.NoKey), leaf(api.NoValue)
	return []expression{
		{v, api.OK},
		{made(api.NoNumber, 7), api.OK},
		{two(api.NoAdd, v, k), api.OK},
		{two(api.NoLess, v, k), api.OK},
		// This one is valid, but not typed: kinds are none of this layer's.
		{one(api.NoNeg, two(api.NoAdd, v, two(api.NoLess, v, k))), api.OK},
		{full(), api.OK},
		{deepest(), api.OK},
		{tooMany(), api.ErrMany},
		{tooDeep(), api.ErrDeep},
		{noWhole(), api.ErrBad},
		{[]api.Node{{Kind: 20}}, api.ErrBad},
	}
}

// sources is a list of sources, and the errors that it has for no join and for a join.
type sources struct {
	l           []int
	plain, join api.Errno
}

// sourceLists are lists of sources for each rule, and for each order of them.
func sourceLists() []sources {
	return []sources{
		{nil, api.ErrBad, api.ErrBad},
		{[]int{}, api.ErrBad, api.ErrBad},
		{[]int{0}, api.OK, api.ErrBad},
		{[]int{3}, api.OK, api.ErrBad},
		{[]int{-1}, api.ErrBad, api.ErrBad},
		{[]int{4}, api.ErrBad, api.ErrBad},
		{[]int{math.MinInt}, api.ErrBad, api.ErrBad},
		{[]int{math.MaxInt}, api.ErrBad, api.ErrBad},
		{[]int{256}, api.ErrBad, api.ErrBad},
		{[]int{1 << 32}, api.ErrBad, api.ErrBad},
		{[]int{2, 0}, api.OK, api.OK},
		{[]int{0, 2}, api.OK, api.OK},
		{[]int{3, 1}, api.OK, api.OK},
		{[]int{2, 2}, api.ErrName, api.ErrName},
		{[]int{0, 0}, api.ErrName, api.ErrName},
		{[]int{0, 4}, api.ErrBad, api.ErrBad},
		{[]int{-1, 0}, api.ErrBad, api.ErrBad},
		{[]int{4, 4}, api.ErrBad, api.ErrBad},
		{[]int{-1, -1}, api.ErrBad, api.ErrBad},
		{[]int{0, 1, 2}, api.OK, api.ErrBad},
		{[]int{3, 0, 1}, api.OK, api.ErrBad},
		{[]int{1, 2, 1}, api.ErrName, api.ErrBad},
		{[]int{1, 1, 2}, api.ErrName, api.ErrBad},
		{[]int{2, 1, 1}, api.ErrName, api.ErrBad},
		{[]int{1, 1, 4}, api.ErrBad, api.ErrBad},
		{[]int{3, 2, 1, 0}, api.OK, api.ErrBad},
		{[]int{0, 1, 2, 3}, api.OK, api.ErrBad},
		{[]int{0, 1, 2, 0}, api.ErrName, api.ErrBad},
		{[]int{0, 1, 2, 4}, api.ErrBad, api.ErrBad},
		{[]int{-1, 1, 1, 0}, api.ErrBad, api.ErrBad},
		{[]int{0, 1, 2, 3, 0}, api.ErrMany, api.ErrMany},
		{[]int{0, 1, 2, 3, 4}, api.ErrMany, api.ErrMany},
		{[]int{9, 9, 9, 9, 9}, api.ErrMany, api.ErrMany},
		{make([]int, 1000), api.ErrMany, api.ErrMany},
	}
}

// windows are windows, and whether they are valid.
type windows struct {
	w     api.Window
	valid bool
}

// windowList are windows of all kinds at each limit.
func windowList() []windows {
	const tumble, slide, session, greatest, least = api.WiTumble, api.WiSlide, api.WiSession, math.MaxInt64, math.MinInt64
	l := []windows{
		{api.Window{Kind: slide, Size: 60, Every: 10}, true},
		{api.Window{Kind: slide, Size: 60, Every: 60}, true},
		{api.Window{Kind: slide, Size: 60, Every: 61}, false},
		{api.Window{Kind: slide, Size: 60, Every: 4}, true},
		{api.Window{Kind: slide, Size: 60, Every: 3}, false},
		{api.Window{Kind: slide, Size: 60, Every: 0}, false},
		{api.Window{Kind: slide, Size: 60, Every: -10}, false},
		{api.Window{Kind: slide, Size: 10, Every: 3}, true},
		{api.Window{Kind: slide, Size: 10, Every: 11}, false},
		{api.Window{Kind: slide, Size: 1, Every: 1}, true},
		{api.Window{Kind: slide, Size: 1, Every: 0}, false},
		{api.Window{Kind: slide, Size: 1, Every: 2}, false},
		{api.Window{Kind: slide, Size: 0, Every: 0}, false},
		{api.Window{Kind: slide, Size: 0, Every: 1}, false},
		{api.Window{Kind: slide, Size: -1, Every: -1}, false},
		{api.Window{Kind: slide, Size: -16, Every: -1}, false},
		{api.Window{Kind: slide, Size: -1, Every: 1}, false},
		{api.Window{Kind: slide, Size: 16, Every: 1}, true},
		{api.Window{Kind: slide, Size: 17, Every: 1}, false},
		{api.Window{Kind: slide, Size: 17, Every: 2}, true},
		{api.Window{Kind: slide, Size: 48, Every: 3}, true},
		{api.Window{Kind: slide, Size: 49, Every: 3}, false},
		{api.Window{Kind: slide, Size: 1 << 30, Every: 1 << 26}, true},
		{api.Window{Kind: slide, Size: 1 << 30, Every: 1<<26 - 1}, false},
		{api.Window{Kind: slide, Size: 1<<30 - 15, Every: 1<<26 - 1}, false},
		{api.Window{Kind: slide, Size: 1<<30 - 16, Every: 1<<26 - 1}, true},
		{api.Window{Kind: slide, Size: 1 << 30, Every: 1 << 30}, true},
		{api.Window{Kind: slide, Size: 1 << 30, Every: 1<<30 + 1}, false},
		{api.Window{Kind: slide, Size: 1<<30 + 1, Every: 1 << 30}, false},
		{api.Window{Kind: slide, Size: 1<<30 + 1, Every: 1<<30 + 1}, false},
		// Sixteen times these would wrap to something else.
		{api.Window{Kind: slide, Size: 1 << 60, Every: 1 << 60}, false},
		{api.Window{Kind: slide, Size: 60, Every: 1<<60 + 10}, false},
		{api.Window{Kind: slide, Size: 60, Every: 10 - 1<<60}, false},
		{api.Window{Kind: slide, Size: greatest, Every: greatest}, false},
		{api.Window{Kind: slide, Size: 60, Every: least}, false},
		{api.Window{Kind: slide, Size: 60, Every: -1<<59 - 1}, false},
		{api.Window{Kind: slide, Size: least, Every: least}, false},
		// The low 32 bits of these would be valid.
		{api.Window{Kind: slide, Size: 1<<32 + 60, Every: 1<<32 + 10}, false},
		{api.Window{Kind: slide, Size: 60, Every: 1<<32 + 10}, false},
	}
	for _, size := range []int64{1, 2, 17, 60, 1<<30 - 1, 1 << 30, 0, -1, -60, -1 << 30, 1<<30 + 1, 1 << 31, 1<<32 + 60, greatest, least} {
		for _, every := range []int64{0, 1, -1, size, 1 << 32, least, greatest} {
			for _, kind := range []uint8{tumble, session} {
				l = append(l, windows{api.Window{Kind: kind, Size: size, Every: every}, size >= 1 && size <= 1<<30 && every == 0})
			}
		}
	}
	for _, kind := range []uint8{0, 4, 5, 128, 255} {
		for _, every := range []int64{0, 1, 10, 60} {
			l = append(l, windows{api.Window{Kind: kind, Size: 60, Every: every}, false})
		}
	}
	return append(l, windows{})
}

// error returns the error that windows have.
func (x windows) error() api.Errno {
	if x.valid {
		return api.OK
	}
	return api.ErrBad
}

// valid reports whether windows are valid, as the chapter tells it, by numbers that do not wrap.
func valid(w api.Window) bool {
	size, every, times := big.NewInt(w.Size), big.NewInt(w.Every), big.NewInt(16)
	if size.Sign() <= 0 || size.BitLen() > 31 || size.BitLen() == 31 && size.TrailingZeroBits() != 30 {
		return false
	}
	if w.Kind == 1 || w.Kind == 3 {
		return every.Sign() == 0
	}
	return w.Kind == 2 && every.Sign() > 0 && every.Cmp(size) <= 0 && size.Cmp(times.Mul(times, every)) <= 0
}

// tumble, slide and session return valid windows.
func tumble(size int64) api.Window { return api.Window{Kind: api.WiTumble, Size: size} }
func slide(size, every int64) api.Window {
	return api.Window{Kind: api.WiSlide, Size: size, Every: every}
}
func session(size int64) api.Window { return api.Window{Kind: api.WiSession, Size: size} }

// ordinary returns a query that is valid, with all that a query may have.
func ordinary() api.Query {
	return api.Query{
		Agg:     api.AgSum,
		Arg:     two(api.NoAdd, leaf(api.NoValue), leaf(api.NoKey)),
		Sources: []int{2, 0},
		Where:   two(api.NoLess, leaf(api.NoKey), leaf(api.NoTime)),
		Window:  slide(60, 10),
		ByKey:   true,
		Late:    api.LaSide,
	}
}

// joined returns a join that is valid.
func joined() api.Query {
	q := ordinary()
	q.Join, q.Window = true, tumble(60)
	return q
}

// copied returns a query that shares no memory with another one.
func copied(q api.Query) api.Query {
	q.Arg, q.Sources, q.Where = slices.Clone(q.Arg), slices.Clone(q.Sources), slices.Clone(q.Where)
	return q
}

// checkWindow fails the test unless Window says whether windows are valid.
func checkWindow(t *testing.T, w api.Window, is bool) {
	t.Helper()
	if e := clauses.Window(w); e != (windows{w, is}).error() {
		t.Errorf("Window(%v) is %v, valid is %v", w, e, is)
	}
}

// checkSources fails the test unless Sources returns this.
func checkSources(t *testing.T, l []int, join bool, want api.Errno) {
	t.Helper()
	if e := clauses.Sources(l, join); e != want {
		t.Errorf("Sources(%v, %v) is %v, want %v", l, join, e, want)
	}
}

// checkQuery fails the test unless Check returns this; and Same, if it is an error.
func checkQuery(t *testing.T, q api.Query, want api.Errno) {
	t.Helper()
	if e := clauses.Check(q); e != want {
		t.Fatalf("Check(%v) is %v, want %v", q, e, want)
	}
	if want != api.OK {
		checkNotCompared(t, q, ordinary(), want)
		checkNotCompared(t, ordinary(), q, want)
		checkNotCompared(t, q, q, want)
	}
}

// checkSame fails the test unless two queries are the same, or are not, in both directions.
func checkSame(t *testing.T, p, q api.Query, want bool) {
	t.Helper()
	if is, e := clauses.Same(p, q); is != want || e != api.OK {
		t.Errorf("Same(%v, %v) is %v, %v, want %v", p, q, is, e, want)
	}
	if is, e := clauses.Same(q, p); is != want || e != api.OK {
		t.Errorf("Same(%v, %v) is %v, %v, want %v", q, p, is, e, want)
	}
}

// checkNotCompared fails the test unless Same returns this error, and false.
func checkNotCompared(t *testing.T, p, q api.Query, want api.Errno) {
	t.Helper()
	if is, e := clauses.Same(p, q); is || e != want {
		t.Errorf("Same(%v, %v) is %v, %v, want %v", p, q, is, e, want)
	}
}

// The expressions of these tests are what they are meant to be.
func TestExpressions(t *testing.T) {
	for _, x := range expressions() {
		if e := nodes.Check(x.l); e != x.e {
			t.Errorf("nodes.Check(%v) is %v, want %v", x.l, e, x.e)
		}
	}
	if n, e := nodes.Depth(deepest()); len(full()) != 60 || n != 20 || e != api.OK {
		t.Errorf("there are %d nodes, and the depth %d", len(full()), n)
	}
}

// P8.1: the examples of the chapter.
func TestExamples(t *testing.T) {
	checkWindow(t, slide(10, 3), true)
	checkWindow(t, slide(10, 11), false)
	checkWindow(t, slide(17, 1), false)
	checkSources(t, []int{2, 0}, false, api.OK)
	checkSources(t, []int{2, 0}, true, api.OK)
	checkSources(t, []int{2, 2}, false, api.ErrName)
	checkSources(t, []int{2, 2}, true, api.ErrName)
	checkSources(t, []int{2}, true, api.ErrBad)
	checkSources(t, []int{2}, false, api.OK)
}

// P8.1: windows of each kind at each limit.
func TestWindow(t *testing.T) {
	for _, x := range windowList() {
		checkWindow(t, x.w, x.valid)
	}
}

// P8.1: small windows of all kinds.
func TestSmallWindows(t *testing.T) {
	for kind := 0; kind < 256; kind++ {
		for size := int64(-3); size <= 70; size++ {
			for every := int64(-3); every <= 72; every++ {
				w := api.Window{Kind: uint8(kind), Size: size, Every: every}
				checkWindow(t, w, valid(w))
			}
		}
	}
}

// P8.1: windows with great numbers, near the ends of int64, of a Size, and of sixteen times Every.
func TestGreatWindows(t *testing.T) {
	var l []int64
	for bit := range 64 {
		for near := int64(-17); near <= 17; near++ {
			l = append(l, 1<<bit+near, -1<<bit+near)
		}
	}
	r := rand.New(rand.NewSource(1))
	right := 0
	for range 300000 {
		w := api.Window{Kind: uint8(1 + r.Intn(3)), Size: l[r.Intn(len(l))], Every: l[r.Intn(len(l))]}
		switch r.Intn(6) {
		case 0:
			w.Every = 0
		case 1:
			w.Every = w.Size / 16
		case 2:
			w.Size = w.Every*16 + int64(r.Intn(3)) - 1
		case 3:
			w.Every = w.Size + int64(r.Intn(3)) - 1
		}
		checkWindow(t, w, valid(w))
		if valid(w) {
			right++
		}
	}
	if right < 1000 {
		t.Errorf("%d windows are valid", right)
	}
}

// P8.1: lists of sources for each rule, and for each order of them.
func TestSources(t *testing.T) {
	for _, x := range sourceLists() {
		checkSources(t, x.l, false, x.plain)
		checkSources(t, x.l, true, x.join)
	}
}

// sourcesError returns the error of a list of sources, told by how often each number is there.
func sourcesError(l []int, join bool) api.Errno {
	var often [4]int
	others := 0
	for _, n := range l {
		switch n {
		case 0, 1, 2, 3:
			often[n]++
		default:
			others++
		}
	}
	switch {
	case len(l) >= 5:
		return api.ErrMany
	case others > 0 || len(l) == 0 || join && len(l) != 2:
		return api.ErrBad
	case slices.Max(often[:]) > 1:
		return api.ErrName
	}
	return api.OK
}

// listsOf returns all lists of so many numbers from -1 to 4.
func listsOf(n int) [][]int {
	if n == 0 {
		return [][]int{nil}
	}
	var all [][]int
	for _, l := range listsOf(n - 1) {
		for last := -1; last <= 4; last++ {
			all = append(all, append(slices.Clone(l), last))
		}
	}
	return all
}

// P8.1, P8.4: all lists of up to five numbers, and that their order does not matter.
func TestAllSources(t *testing.T) {
	for n := range 6 {
		for _, l := range listsOf(n) {
			for _, join := range []bool{false, true} {
				want := sourcesError(l, join)
				checkSources(t, l, join, want)
				sorted := slices.Sorted(slices.Values(l))
				checkSources(t, sorted, join, want)
				slices.Reverse(sorted)
				checkSources(t, sorted, join, want)
			}
		}
	}
}

// P8.2: the name of each source, and numbers that are no source's.
func TestName(t *testing.T) {
	for source, want := range []string{"a", "b", "c", "d"} {
		if s, e := clauses.Name(source); s != want || e != api.OK {
			t.Errorf("Name(%d) is %q, %v, want %q", source, s, e, want)
		}
	}
	l := []int{math.MinInt, -1 << 32, 1 << 32, 1<<32 + 1, 1 << 33, math.MaxInt}
	for n := range 300 {
		l = append(l, -1-n, 4+n)
	}
	for _, source := range l {
		if s, e := clauses.Name(source); s != "" || e != api.ErrArg {
			t.Errorf("Name(%d) is %q, %v", source, s, e)
		}
	}
}

// P8.2: the source with each name, and texts that are no source's.
func TestSource(t *testing.T) {
	l := []string{"", "ab", "aa", "abc", "abcd", "a ", " a", "a\n", "and", "by", "count", "drop", "k", "t", "v", "select", "a\x00", "á", "\xff\xfe", "aaaaaaaaaaaaaaaaaaaaaaaaaaaaaaaaa"}
	for c := range 256 {
		l = append(l, string([]byte{byte(c)}), string([]byte{'a', byte(c)}), string([]byte{byte(c), 'd'}))
	}
	for _, s := range l {
		want, e := map[string]int{"a": 0, "b": 1, "c": 2, "d": 3}[s], api.OK
		if want == 0 && s != "a" {
			e = api.ErrArg
		}
		if n, is := clauses.Source(s); n != want || is != e {
			t.Errorf("Source(%q) is %d, %v, want %d, %v", s, n, is, want, e)
		}
	}
}

// P8.4: names and sources are a bijection.
func TestBijection(t *testing.T) {
	seen := map[string]bool{}
	for source := range 4 {
		s, e := clauses.Name(source)
		if n, is := clauses.Source(s); e != api.OK || n != source || is != api.OK || seen[s] {
			t.Errorf("the source %d is %q, and this is %d: %v, %v", source, s, n, e, is)
		}
		seen[s] = true
	}
}

// P8.3: ordinary queries: each aggregate, kind of windows and choice of late records, with a condition, a key, a join, or without.
func TestOrdinary(t *testing.T) {
	for _, w := range []api.Window{tumble(60), slide(60, 10), session(60)} {
		for _, l := range [][]int{{0}, {3}, {2, 0}, {1, 0, 3}, {0, 1, 2, 3}} {
			for _, agg := range []uint8{api.AgCount, api.AgSum, api.AgMin, api.AgMax} {
				for i := range 16 {
					q := ordinary()
					q.Agg, q.Sources, q.Window, q.ByKey, q.Late = agg, l, w, i&1 == 0, uint8(1+i>>1&1)
					if agg == api.AgCount {
						q.Arg = nil
					}
					if i&4 == 0 {
						q.Where = nil
					}
					q.Join = i&8 == 0
					want := api.OK
					if q.Join && (len(l) != 2 || w.Kind != api.WiTumble) {
						want = api.ErrBad
					}
					checkQuery(t, q, want)
				}
			}
		}
	}
}

// P8.3: one thing that is wrong in a query.
func TestOneWrong(t *testing.T) {
	for _, good := range []api.Query{ordinary(), joined()} {
		checkQuery(t, good, api.OK)
		for agg := range 256 {
			q := good
			q.Agg = uint8(agg)
			want := api.ErrBad
			if agg >= 2 && agg <= 4 {
				want = api.OK
			}
			checkQuery(t, q, want)
		}
		for late := range 256 {
			q := good
			q.Late = uint8(late)
			want := api.ErrBad
			if late == 1 || late == 2 {
				want = api.OK
			}
			checkQuery(t, q, want)
		}
	}
	checkQuery(t, api.Query{}, api.ErrBad)
}

// P8.3: an argument for a count, whatever it is, and none for the others; a condition, and none.
func TestArguments(t *testing.T) {
	for _, none := range [][]api.Node{nil, {}} {
		for agg := uint8(1); agg <= 4; agg++ {
			q := ordinary()
			q.Agg, q.Arg = agg, none
			want := api.ErrBad
			if agg == 1 {
				want = api.OK
			}
			checkQuery(t, q, want)
		}
		q := ordinary()
		q.Where = none
		checkQuery(t, q, api.OK)
	}
	for _, x := range expressions() {
		q := ordinary()
		q.Where = x.l
		checkQuery(t, q, x.e)
		for agg := uint8(2); agg <= 4; agg++ {
			q := ordinary()
			q.Agg, q.Arg = agg, x.l
			checkQuery(t, q, x.e)
		}
		q = ordinary()
		q.Agg, q.Arg = api.AgCount, x.l
		checkQuery(t, q, api.ErrBad)
	}
}

// P8.3: sources and windows in a query, with a join and without.
func TestSourcesAndWindows(t *testing.T) {
	for _, x := range sourceLists() {
		q := ordinary()
		q.Sources = x.l
		checkQuery(t, q, x.plain)
		q = joined()
		q.Sources = x.l
		checkQuery(t, q, x.join)
	}
	for _, x := range windowList() {
		q := ordinary()
		q.Window = x.w
		checkQuery(t, q, x.error())
		q = joined()
		q.Window = x.w
		want := x.error()
		if x.w.Kind != api.WiTumble {
			want = api.ErrBad
		}
		checkQuery(t, q, want)
	}
}

// first returns the first error, or OK.
func first(l ...api.Errno) api.Errno {
	for _, e := range l {
		if e != api.OK {
			return e
		}
	}
	return api.OK
}

// somePicks returns all choices of an aggregate, its argument and what happens to late records, each with its errors in order.
func somePicks() (all []api.Query, errors [][]api.Errno) {
	arguments := append(expressions(), expression{nil, api.ErrBad})
	for _, agg := range []uint8{0, 1, 2, 4, 5} {
		for _, late := range []uint8{0, 1, 2, 3} {
			for _, arg := range arguments {
				whole, own := api.OK, arg.e
				if agg == 0 || agg == 5 || late == 0 || late == 3 {
					whole = api.ErrBad
				}
				if agg == 1 {
					own = api.ErrBad
					if len(arg.l) == 0 {
						own = api.OK
					}
				}
				all = append(all, api.Query{Agg: agg, Arg: arg.l, Late: late})
				errors = append(errors, []api.Errno{whole, own})
			}
		}
	}
	return all, errors
}

// P8.3: all choices of parts that are right or wrong: the first error is the one that is named first.
func TestOrder(t *testing.T) {
	conditions := append(expressions(), expression{nil, api.OK})
	places := []sources{{[]int{1, 3}, api.OK, api.OK}, {[]int{1}, api.OK, api.ErrBad}, {[]int{2, 2}, api.ErrName, api.ErrName}, {nil, api.ErrBad, api.ErrBad}, {make([]int, 5), api.ErrMany, api.ErrMany}}
	wins := []windows{{tumble(5), true}, {session(5), true}, {slide(5, 5), true}, {tumble(0), false}, {slide(17, 1), false}}
	picks, errors := somePicks()
	valid := 0
	for i, pick := range picks {
		for _, where := range conditions {
			for _, place := range places {
				for _, win := range wins {
					q := pick
					q.Where, q.Sources, q.Window = where.l, place.l, win.w
					checkQuery(t, q, first(errors[i][0], errors[i][1], where.e, place.plain, win.error()))
					q.Join = true
					joins := api.OK
					if win.w.Kind != api.WiTumble {
						joins = api.ErrBad
					}
					want := first(errors[i][0], errors[i][1], where.e, place.join, win.error(), joins)
					checkQuery(t, q, want)
					if want == api.OK {
						valid++
					}
				}
			}
		}
	}
	if valid == 0 {
		t.Error("no join is valid")
	}
}

// others returns queries that are valid, no two of them the same.
func others() []api.Query {
	changes := []func(q *api.Query){
		func(q *api.Query) {},
		func(q *api.Query) { q.Agg, q.Arg = api.AgCount, nil },
		func(q *api.Query) { q.Agg = api.AgMin },
		func(q *api.Query) { q.Agg = api.AgMax },
		func(q *api.Query) { q.Arg = leaf(api.NoValue) },
		func(q *api.Query) { q.Arg = made(api.NoNumber, 7) },
		func(q *api.Query) { q.Arg = made(api.NoNumber, 8) },
		func(q *api.Query) { q.Arg = two(api.NoAdd, leaf(api.NoKey), leaf(api.NoValue)) },
		func(q *api.Query) { q.Arg = two(api.NoSub, leaf(api.NoValue), leaf(api.NoKey)) },
		func(q *api.Query) { q.Arg = full() },
		func(q *api.Query) { q.Sources = []int{0, 2} },
		func(q *api.Query) { q.Sources = []int{2, 1} },
		func(q *api.Query) { q.Sources = []int{3, 0} },
		func(q *api.Query) { q.Where = nil },
		func(q *api.Query) { q.Where = leaf(api.NoKey) },
		func(q *api.Query) { q.Where = two(api.NoAtMost, leaf(api.NoKey), leaf(api.NoTime)) },
		func(q *api.Query) { q.Where = slices.Clone(q.Arg) },
		func(q *api.Query) { q.Arg, q.Where = q.Where, q.Arg },
		func(q *api.Query) { q.Window.Size = 50 },
		func(q *api.Query) { q.ByKey = false },
		func(q *api.Query) { q.Late = api.LaDrop },
		func(q *api.Query) { q.ByKey, q.Late = false, api.LaDrop },
	}
	plain := []func(q *api.Query){
		func(q *api.Query) { q.Sources = []int{2} },
		func(q *api.Query) { q.Sources = []int{0} },
		func(q *api.Query) { q.Sources = []int{2, 0, 1} },
		func(q *api.Query) { q.Sources = []int{2, 0, 3} },
		func(q *api.Query) { q.Sources = []int{2, 0, 3, 1} },
		func(q *api.Query) { q.Window.Every = 20 },
		func(q *api.Query) { q.Window.Every = 60 },
		func(q *api.Query) { q.Window = session(60) },
		func(q *api.Query) { q.Window = tumble(60) },
		func(q *api.Query) { q.Window = tumble(50) },
	}
	var all []api.Query
	for _, change := range slices.Concat(changes, plain) {
		q := ordinary()
		change(&q)
		all = append(all, q)
	}
	for _, change := range changes {
		q := joined()
		change(&q)
		all = append(all, q)
	}
	return all
}

// P8.3: queries that differ in one thing are not the same; each is the same as itself, wherever its nodes stand.
func TestSame(t *testing.T) {
	all := others()
	for i, p := range all {
		checkQuery(t, p, api.OK)
		moved := copied(p)
		moved.Arg, moved.Where = placed(7, p.Arg), placed(300, p.Where)
		checkQuery(t, moved, api.OK)
		for j, q := range all {
			checkSame(t, p, copied(q), i == j)
			checkSame(t, moved, q, i == j)
		}
	}
}

// P8.3, P1 (R3): nil and empty lists are the same.
func TestEmptyLists(t *testing.T) {
	p := ordinary()
	p.Agg, p.Arg, p.Where = api.AgCount, nil, nil
	q := copied(p)
	q.Arg, q.Where = []api.Node{}, leaf(api.NoKey)[:0]
	checkSame(t, p, q, true)
}

// P8.3: Same returns the error of the first query that has one.
func TestSameErrors(t *testing.T) {
	many, deep, twice, bad := ordinary(), ordinary(), ordinary(), ordinary()
	many.Arg, deep.Where, twice.Sources, bad.Late = tooMany(), tooDeep(), []int{1, 1}, 3
	wrong := map[api.Errno]api.Query{api.ErrMany: many, api.ErrDeep: deep, api.ErrName: twice, api.ErrBad: bad}
	for want, p := range wrong {
		checkQuery(t, p, want)
		for _, q := range wrong {
			checkNotCompared(t, p, q, want)
		}
		for _, q := range others() {
			checkNotCompared(t, p, q, want)
			checkNotCompared(t, q, p, want)
		}
	}
}

// P8.4: a query is valid with another valid part in the place of one, unless it is a join.
func TestPartsByThemselves(t *testing.T) {
	all := others()
	for _, p := range all {
		for _, q := range all {
			swapped := copied(p)
			swapped.Where = q.Where
			if (p.Agg == api.AgCount) == (q.Agg == api.AgCount) {
				swapped.Arg = q.Arg
			}
			checkQuery(t, swapped, api.OK)
			if p.Join {
				continue
			}
			swapped.Sources, swapped.Window = q.Sources, q.Window
			checkQuery(t, swapped, api.OK)
			swapped.Join = true
			want := api.ErrBad
			if len(q.Sources) == 2 && q.Window.Kind == api.WiTumble {
				want = api.OK
			}
			checkQuery(t, swapped, want)
		}
	}
}

// behindNodes and behindSources return lists with more in the memory behind their length.
func behindNodes(l []api.Node) []api.Node {
	return slices.Concat(l, slices.Repeat([]api.Node{{Kind: 99, N: -5, A: -5, B: -5, At: -5}}, 70))[:len(l)]
}
func behindSources(l []int) []int {
	return slices.Concat(l, []int{9, 9, 9, 9, 9})[:len(l)]
}

// P1 (R2): arguments are not changed, the memory behind the length of a list among them, and this memory does not matter.
func TestArgumentsStay(t *testing.T) {
	for _, p := range others() {
		q := p
		q.Arg, q.Sources, q.Where = behindNodes(p.Arg), behindSources(p.Sources), behindNodes(p.Where)
		given := copied(api.Query{Arg: q.Arg[:cap(q.Arg)], Sources: q.Sources[:cap(q.Sources)], Where: q.Where[:cap(q.Where)]})
		checkSources(t, q.Sources, q.Join, api.OK)
		checkQuery(t, q, api.OK)
		checkSame(t, p, q, true)
		if !slices.Equal(q.Arg[:cap(q.Arg)], given.Arg) || !slices.Equal(q.Sources[:cap(q.Sources)], given.Sources) || !slices.Equal(q.Where[:cap(q.Where)], given.Where) {
			t.Errorf("%v was changed to %v", given, q)
		}
	}
}

// P1 (R1, R2): calls with errors change nothing either, and leave nothing behind for the calls after them.
func TestNothingIsKept(t *testing.T) {
	for range 3 {
		for _, x := range sourceLists() {
			l := behindSources(x.l)
			kept := slices.Clone(l[:cap(l)])
			checkSources(t, l, true, x.join)
			checkSources(t, l, false, x.plain)
			if !slices.Equal(l[:cap(l)], kept) {
				t.Errorf("%v was changed to %v", kept, l[:cap(l)])
			}
		}
		for _, x := range expressions() {
			q := ordinary()
			q.Arg, q.Where = behindNodes(x.l), behindNodes(x.l)
			kept := slices.Clone(q.Arg[:cap(q.Arg)])
			checkQuery(t, q, x.e)
			if !slices.Equal(q.Arg[:cap(q.Arg)], kept) || !slices.Equal(q.Where[:cap(q.Where)], kept) {
				t.Errorf("%v was changed to %v", kept, q)
			}
		}
		checkQuery(t, ordinary(), api.OK)
		checkQuery(t, joined(), api.OK)
	}
}

// randomNodes returns nodes with numbers that may be anything, or, every other time, one of these expressions.
func randomNodes(r *rand.Rand, some []expression) []api.Node {
	if r.Intn(2) == 0 {
		return some[r.Intn(len(some))].l
	}
	l := make([]api.Node, r.Intn(4))
	for i := range l {
		l[i] = api.Node{Kind: uint8(r.Intn(22)), N: r.Int63() - r.Int63(), A: r.Intn(5) - 2, B: r.Intn(5) - 2, At: r.Intn(500) - 50}
		if r.Intn(2) == 0 {
			l[i] = api.Node{Kind: uint8(1 + r.Intn(5))}
		}
	}
	return l
}

// anything returns a query whose parts may be anything, or, every other time, are those of a valid one.
func anything(r *rand.Rand, some []expression, good api.Query) api.Query {
	q := copied(good)
	if r.Intn(2) == 0 {
		q.Agg, q.Late = uint8(r.Intn(6)), uint8(r.Intn(4))
	}
	q.Arg, q.Where, q.ByKey = randomNodes(r, some), randomNodes(r, some), r.Intn(2) == 0
	if r.Intn(2) == 0 {
		q.Join, q.Sources = r.Intn(2) == 0, nil
		for range r.Intn(6) {
			q.Sources = append(q.Sources, r.Intn(6)-1)
		}
	}
	switch r.Intn(4) {
	case 0:
		q.Window = api.Window{Kind: uint8(r.Intn(5)), Size: int64(r.Intn(40) - 1), Every: int64(r.Intn(5) - 1)}
	case 1:
		q.Window = api.Window{Kind: uint8(r.Intn(5)), Size: r.Int63() - r.Int63(), Every: r.Int63() - r.Int63()}
	}
	return q
}

// reference returns the error of a query, its clauses one behind the other.
func reference(q api.Query) api.Errno {
	whole, arg, where, join := api.OK, nodes.Check(q.Arg), nodes.Check(q.Where), api.OK
	if !slices.Contains([]uint8{1, 2, 3, 4}, q.Agg) || !slices.Contains([]uint8{1, 2}, q.Late) {
		whole = api.ErrBad
	}
	switch {
	case q.Agg == 1 && len(q.Arg) > 0:
		arg = api.ErrBad
	case q.Agg == 1:
		arg = api.OK
	}
	if len(q.Where) == 0 {
		where = api.OK
	}
	if q.Join && q.Window.Kind != 1 {
		join = api.ErrBad
	}
	return first(whole, arg, where, sourcesError(q.Sources, q.Join), windows{q.Window, valid(q.Window)}.error(), join)
}

// P1 (R7), P8.3: queries of anything at all get the first error that their parts have.
func TestAnything(t *testing.T) {
	r := rand.New(rand.NewSource(2))
	some, right := expressions(), 0
	for i := range 50000 {
		q := anything(r, some, []api.Query{ordinary(), joined()}[i%2])
		e := reference(q)
		checkQuery(t, q, e)
		if e == api.OK {
			checkSame(t, q, copied(q), true)
			right++
		}
	}
	if right < 500 {
		t.Errorf("%d queries are valid", right)
	}
}
