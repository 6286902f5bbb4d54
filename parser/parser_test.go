package parser_test

import (
	"maps"
	"math/rand"
	"slices"
	"strconv"
	"strings"
	"testing"

	"tailwater/api"
	"tailwater/clauses"
	"tailwater/exprs"
	"tailwater/lexer"
	"tailwater/parser"
)

// allTexts are the texts of all words and symbols, and of some numbers.
var allTexts = strings.Fields("select count sum min max from union join where window tumble slide every session by key late drop side and or not a b c d k t v ( ) * + - < <= << > >= >> = != 0 1 7 007 9223372036854775807")

// front and simple are the first part of a query, and all of one.
const (
	front  = "select count(*) from a window "
	simple = front + "tumble 5"
)

// times returns a text so many times.
func times(n int, s string) string { return strings.Repeat(s, n) }

// joined returns texts with a blank between any two.
func joined(l ...string) string { return strings.Join(l, " ") }

// tumble, slide and session return windows.
func tumble(size int64) api.Window { return api.Window{Kind: api.WiTumble, Size: size} }
func slide(size, every int64) api.Window {
	return api.Window{Kind: api.WiSlide, Size: size, Every: every}
}
func session(size int64) api.Window { return api.Window{Kind: api.WiSession, Size: size} }

// counted returns the query of "select count(*) from a", with these windows.
func counted(w api.Window) api.Query {
	return api.Query{Agg: api.AgCount, Sources: []int{0}, Window: w, Late: api.LaDrop}
}

// equal reports whether two queries are equal, the places of their nodes among all else.
func equal(p, q api.Query) bool {
	return p.Agg == q.Agg && slices.Equal(p.Arg, q.Arg) && slices.Equal(p.Sources, q.Sources) && p.Join == q.Join &&
		slices.Equal(p.Where, q.Where) && p.Window == q.Window && p.ByKey == q.ByKey && p.Late == q.Late
}

// moved returns nodes at other places.
func moved(l []api.Node, place func(at int) int) []api.Node {
	l = slices.Clone(l)
	for i := range l {
		l[i].At = place(l[i].At)
	}
	return l
}

// expression returns the nodes of an expression that is behind so many bytes of a text.
func expression(s string, behind int) []api.Node {
	l, _, _ := lexer.All(s)
	x, n, e := exprs.Parse(l, 0)
	if e != api.OK || n != len(l) {
		panic("the text is no expression")
	}
	return moved(x, func(at int) int { return at + behind })
}

// checkQuery fails the test unless a text has this query.
func checkQuery(t *testing.T, s string, want api.Query) {
	t.Helper()
	if q, n, e := parser.Parse(s); !equal(q, want) || n != len(s) || e != api.OK {
		t.Errorf("Parse(%q) is %v, %d, %v, want %v, %d", s, q, n, e, want, len(s))
	}
}

// checkError fails the test unless a text has this error, at this place, and no query.
func checkError(t *testing.T, s string, want api.Errno, at int) {
	t.Helper()
	if q, n, e := parser.Parse(s); !equal(q, api.Query{}) || n != at || e != want {
		t.Errorf("Parse(%q) is %v, %d, %v, want %v at %d", s, q, n, e, want, at)
	}
}

// checkAt fails the test unless a text has this error where "#" stands, which is no part of it.
func checkAt(t *testing.T, s string, want api.Errno) {
	t.Helper()
	at := strings.IndexByte(s, '#')
	if at < 0 {
		t.Fatalf("%q has no place", s)
	}
	checkError(t, s[:at]+s[at+1:], want, at)
}

// checkReference fails the test unless Parse returns what the reference does; it reports whether the text is a query.
func checkReference(t *testing.T, s string) bool {
	t.Helper()
	want, at, e := reference(s)
	if e != api.OK {
		checkError(t, s, e, at)
		return false
	}
	checkQuery(t, s, want)
	if e := clauses.Check(want); e != api.OK {
		t.Errorf("the query of %q is not valid: %v", s, e)
	}
	checkPlaces(t, s, want.Arg)
	checkPlaces(t, s, want.Where)
	return true
}

// checkPlaces fails the test unless at the place of each node its token is, and no two are at the same one.
func checkPlaces(t *testing.T, s string, l []api.Node) {
	t.Helper()
	signs := strings.Fields("k t v - not * + - << >> < <= > >= = != and or")
	left := map[int]string{}
	tokens, _, _ := lexer.All(s)
	for _, token := range tokens {
		left[token.At] = token.Text
	}
	for _, node := range l {
		text := left[node.At]
		if node.Kind == api.NoNumber {
			n, err := strconv.ParseInt(text, 10, 64)
			if n != node.N || err != nil {
				t.Errorf("%v of %q is at %q", node, s, text)
			}
		} else if text != signs[node.Kind-2] {
			t.Errorf("%v of %q is at %q", node, s, text)
		}
		delete(left, node.At)
	}
}

// P9.1: the examples of the chapter, with the place of each node.
func TestExamples(t *testing.T) {
	checkQuery(t, "select sum(v) from a union c where k > 0 window slide 10 every 5 by key late side", api.Query{
		Agg: api.AgSum, Arg: []api.Node{{Kind: api.NoValue, At: 11}}, Sources: []int{0, 2},
		Where:  []api.Node{{Kind: api.NoKey, At: 35}, {Kind: api.NoNumber, At: 39}, {Kind: api.NoMore, A: 0, B: 1, At: 37}},
		Window: slide(10, 5), ByKey: true, Late: api.LaSide,
	})
	checkError(t, "select count(*) from a", api.ErrForm, 22)
	checkError(t, "select count(*) from a join a window tumble 5", api.ErrName, 28)
}

// P9.1: expressions need not be typed at this layer: these are the examples of layer 10.
func TestNotTyped(t *testing.T) {
	checkQuery(t, "select sum(v < 1) from a window tumble 5", api.Query{
		Agg: api.AgSum, Arg: []api.Node{{Kind: api.NoValue, At: 11}, {Kind: api.NoNumber, N: 1, At: 15}, {Kind: api.NoLess, A: 0, B: 1, At: 13}},
		Sources: []int{0}, Window: tumble(5), Late: api.LaDrop,
	})
	checkQuery(t, "select sum(v) from a where v window tumble 5", api.Query{
		Agg: api.AgSum, Arg: []api.Node{{Kind: api.NoValue, At: 11}}, Sources: []int{0},
		Where: []api.Node{{Kind: api.NoValue, At: 27}}, Window: tumble(5), Late: api.LaDrop,
	})
}

// part is a part of a query: its text, and what it says, if it is behind so many bytes.
type part struct {
	text string
	set  func(q *api.Query, behind int)
}

// aggregates, sources, conditions, windows, keys and lates are parts of each kind.
func aggregates() []part {
	with := func(agg uint8, text, arg string) part {
		inner := strings.Index(text, arg)
		return part{text, func(q *api.Query, behind int) { q.Agg, q.Arg = agg, expression(arg, behind+inner) }}
	}
	return []part{
		{"select count(*)", func(q *api.Query, _ int) { q.Agg = api.AgCount }},
		with(api.AgSum, "select sum(v)", "v"),
		with(api.AgMin, "select min((k - t) * 2)", "(k - t) * 2"),
		with(api.AgMax, "select max ( not v = 1 )", "not v = 1"),
	}
}

func sources() []part {
	with := func(text string, join bool, sources ...int) part {
		return part{text, func(q *api.Query, _ int) { q.Join, q.Sources = join, sources }}
	}
	return []part{
		with("from a", false, 0), with("from b", false, 1), with("from c", false, 2), with("from d", false, 3),
		with("from a union b", false, 0, 1), with("from d union b", false, 3, 1), with("from c union a union d", false, 2, 0, 3),
		with("from a union b union c union d", false, 0, 1, 2, 3), with("from d union a union c union b", false, 3, 0, 2, 1),
		with("from a join b", true, 0, 1), with("from b join a", true, 1, 0), with("from d join c", true, 3, 2),
	}
}

func conditions() []part {
	with := func(where string) part {
		return part{"where " + where, func(q *api.Query, behind int) { q.Where = expression(where, behind+6) }}
	}
	return []part{{"", func(*api.Query, int) {}}, with("v"), with("7"), with("(k)"), with("not k = 2 or t << 1 < 100 and v != - 3")}
}

func windows() []part {
	with := func(text string, w api.Window) part {
		return part{text, func(q *api.Query, _ int) { q.Window = w }}
	}
	return []part{
		with("window tumble 3600", tumble(3600)), with("window tumble 007", tumble(7)), with("window slide 60 every 10", slide(60, 10)),
		with("window slide 5 every 5", slide(5, 5)), with("window session 30", session(30)),
	}
}

func keys() []part {
	return []part{{"", func(*api.Query, int) {}}, {"by key", func(q *api.Query, _ int) { q.ByKey = true }}}
}

func lates() []part {
	with := func(text string, late uint8) part {
		return part{text, func(q *api.Query, _ int) { q.Late = late }}
	}
	return []part{with("", api.LaDrop), with("late drop", api.LaDrop), with("late side", api.LaSide)}
}

// choices returns all lists of a part of each kind that are a query.
func choices() [][]part {
	all := [][]part{nil}
	for _, some := range [][]part{aggregates(), sources(), conditions(), windows(), keys(), lates()} {
		var longer [][]part
		for _, l := range all {
			for _, next := range some {
				longer = append(longer, append(slices.Clone(l), next))
			}
		}
		all = longer
	}
	return slices.DeleteFunc(all, func(l []part) bool {
		return strings.Contains(l[1].text, "join") && !strings.Contains(l[3].text, "tumble")
	})
}

// whole returns the text of parts with a blank between any two, and its query.
func whole(l []part) (string, api.Query) {
	s, q := "", api.Query{}
	for _, next := range l {
		if s != "" && next.text != "" {
			s += " "
		}
		next.set(&q, len(s))
		s += next.text
	}
	return s, q
}

// P9.1, P9.2: each aggregate with all sources, a condition or none, all windows, a key or none, and each choice of late records.
func TestOrdinary(t *testing.T) {
	for _, l := range choices() {
		s, want := whole(l)
		checkQuery(t, s, want)
		if !checkReference(t, s) {
			t.Errorf("the reference does not read %q", s)
		}
	}
}

// P9.2: blanks do not matter, but for places.
func TestBlanks(t *testing.T) {
	for _, l := range choices() {
		s, want := whole(l)
		for _, blank := range []string{"\n", "  ", " \n "} {
			other := blank + strings.ReplaceAll(s, " ", blank) + blank
			if len(other) > api.MaxText {
				t.Fatalf("%q is too long", other)
			}
			place := func(at int) int { return at + len(blank) + (len(blank)-1)*strings.Count(s[:at], " ") }
			q := want
			q.Arg, q.Where = moved(want.Arg, place), moved(want.Where, place)
			checkQuery(t, other, q)
		}
	}
	checkQuery(t, "select count(*)from a window tumble5", counted(tumble(5)))
	checkQuery(t, "select\ncount\n(\n*\n)\nfrom\na\nwindow\nslide 5every5", counted(slide(5, 5)))
	checkError(t, "selectcount(*) from a window tumble 5", api.ErrToken, 0)
	checkError(t, "select count(*) from a window tumble 5 0", api.ErrMore, 39)
	checkError(t, "select count(*) from a window tumble 5\t", api.ErrToken, 38)
}

// P9.2: "by key" and "late side" change ByKey and Late alone, and "late drop" changes nothing.
func TestWithout(t *testing.T) {
	for _, l := range choices() {
		if l[4].text+l[5].text != "" {
			continue
		}
		s, want := whole(l)
		q := want
		checkQuery(t, s+" late drop", q)
		q.ByKey = true
		checkQuery(t, s+" by key", q)
		checkQuery(t, s+" by key late drop", q)
		q.Late = api.LaSide
		checkQuery(t, s+" by key late side", q)
		q.ByKey = false
		checkQuery(t, s+" late side", q)
	}
}

// samples are queries as tokens with blanks between: all that the grammar has is there.
var samples = []string{
	"select count ( * ) from a window tumble 5",
	"select sum ( v ) from b join d where k > 0 window tumble 5 by key late drop",
	"select min ( v * ( k - 1 ) ) from c union a union d window slide 10 every 5 by key late side",
	"select max ( - t ) from d union b where not v = 7 and ( k ) window session 3 late side",
	"select count ( * ) from b union a where v window slide 16 every 1 late drop",
	"select sum ( 7 ) from d window session 1073741824 by key",
	"select min ( t << 2 ) from a join b window tumble 1 late side",
}

// P9.1: a text that ends behind each token lacks something there, unless "by", "late" or nothing is left.
func TestEndsEarly(t *testing.T) {
	for _, s := range samples {
		l := strings.Fields(s)
		for n := range l {
			for _, behind := range []string{"", " ", "\n", " \n  "} {
				text := joined(l[:n]...) + behind
				if l[n] != "by" && l[n] != "late" {
					checkError(t, text, api.ErrForm, len(text))
				} else if !checkReference(t, text) {
					t.Errorf("%q is no query", text)
				}
			}
		}
	}
}

// P9.1: the empty text, and blanks alone.
func TestEmpty(t *testing.T) {
	for _, s := range []string{"", " ", "\n", "   ", " \n \n", times(400, " ")} {
		checkError(t, s, api.ErrForm, len(s))
	}
}

// P9.1: something else where the grammar has a token: each of these texts, and what may not stand behind it.
func TestSomethingElse(t *testing.T) {
	const agg, from = "select count ( * ) ", "select count ( * ) from "
	for front, others := range map[string]string{
		"":                          "from sum ( count v 7 a window",
		"select ":                   "from v ( select window a 7 - * by",
		"select count ":             "* v from ) count 7 <",
		"select count ( ":           ") v ( 7 + from count",
		"select count ( * ":         "* from v + ( 7",
		"select sum ":               "v ) * from sum - 7",
		"select min ":               "v ) * from not k",
		"select sum ( ":             "* ) from = a and select",
		"select max ( v ":           "from v ( 7 not where a key",
		"select max ( v = 1 ":       "= < from",
		agg:                         "a where window ) + by select 7 union",
		from:                        "window v k t ( 7 from where union join",
		from + "a ":                 "b a and + by late tumble ( 7 from ) every",
		from + "a union ":           "union join window where v k 7 (",
		from + "a join ":            "union join window where v k 7 (",
		from + "a union b ":         "join c a by late 7 ) tumble from",
		from + "a union b union d ": "join c a by late 7 ) tumble from",
		from + "a join b ":          "union join c a by late 7 ) slide from",
		from + "a where ":           "where window ) union * a < and",
		from + "a where v ":         "union where tumble ) v 7 ( not by late join",
		from + "a where v < 1 ":     "< = >= where v ) by late",
		from + "a join b where v ":  "union join where tumble slide ) v",
		from + "a join b window ":   "window 5 every where v by ( key late",
		front:                       "window 5 every where v by ( key late",
		front + "tumble ":           "tumble - v ( + every by late a )",
		front + "slide ":            "every - t ( * tumble by late",
		front + "session ":          "every - k ( by session late",
		front + "slide 5 ":          "5 by late * ) v key + slide",
		front + "slide 5 every ":    "every - t ( by late v",
		front + "tumble 5 by ":      "k by late 7 drop side ( t",
		front + "tumble 5 late ":    "late by key 7 not ( select",

		front + "tumble 5 by key late ":       "late by key 7 not",
		front + "slide 5 every 5 late ":       "every key by",
		front + "session 5 by key late ":      "session key by",
		front + "slide 5 every 5 by ":         "every by late",
		from + "a join b window tumble ":      "slide join ( -",
		from + "a join b window tumble 5 by ": "join late 5",
	} {
		for _, text := range strings.Fields(others) {
			checkAt(t, front+"#"+text, api.ErrForm)
			checkAt(t, front+"#"+text+" by ) 0", api.ErrForm)
		}
	}
}

// P9.1, P9.2: each text in the place of each token, and ahead of it, and each token left out.
func TestOneChanged(t *testing.T) {
	queries := 0
	for _, s := range samples {
		l := strings.Fields(s)
		for i := range l {
			checkReference(t, joined(slices.Delete(slices.Clone(l), i, i+1)...))
			for _, text := range allTexts {
				other := slices.Clone(l)
				other[i] = text
				if checkReference(t, joined(other...)) && text != l[i] {
					queries++
				}
				checkReference(t, joined(slices.Insert(other, i+1, l[i])...))
			}
		}
	}
	if queries < 100 {
		t.Errorf("only %d are queries", queries)
	}
}

// P9.1, P9.2: any two texts behind the first tokens of a query, and nothing behind them, or the tokens that are left.
func TestTwoChanged(t *testing.T) {
	for _, s := range samples {
		l := strings.Fields(s)
		for i := range l {
			for _, first := range allTexts {
				for _, second := range allTexts {
					checkReference(t, joined(append(slices.Clone(l[:i]), first, second)...))
					checkReference(t, joined(slices.Replace(slices.Clone(l), i, min(i+2, len(l)), first, second)...))
				}
			}
		}
	}
}

// P9.1: each token behind the query, and more of them.
func TestMore(t *testing.T) {
	for _, s := range []string{simple, "select min(v) from a where v = 1 window session 5", "select max(t) from b join d window tumble 1", "select sum(v) from a union c window slide 10 every 5"} {
		for _, clauses := range []string{"", " by key", " late drop", " late side", " by key late drop", " by key late side"} {
			for _, text := range allTexts {
				if text == "late" && !strings.Contains(clauses, "late") || text == "by" && clauses == "" {
					checkAt(t, s+clauses+" "+text+"#", api.ErrForm)
					continue
				}
				checkAt(t, s+clauses+" #"+text, api.ErrMore)
				checkAt(t, s+clauses+" #"+text+" * ) from", api.ErrMore)
			}
		}
	}
	for _, s := range []string{
		" #every 5", " #key", " #drop", " #side", " #where v", " #union b", " #window tumble 5", " #select count(*)", " #5", " #)", " #tumble 5", "#) by key",
		" by key #by key", " by key #key", " late side #by key", " late drop #late drop", " late side #late drop", " late drop #drop", " by key late drop #side", " late drop #by",
	} {
		checkAt(t, simple+s, api.ErrMore)
	}
}

// P9.1: a Size from 1 to 2^30 for windows of each kind, and others, whatever is behind them.
func TestSizes(t *testing.T) {
	for word, kind := range map[string]uint8{"tumble ": api.WiTumble, "slide ": api.WiSlide, "session ": api.WiSession} {
		for _, n := range []int64{1, 2, 3, 17, 999, 1<<30 - 1, 1 << 30} {
			text := strconv.FormatInt(n, 10)
			w, behind := api.Window{Kind: kind, Size: n}, ""
			if kind == api.WiSlide {
				w.Every, behind = n, " every "+text
			}
			for _, zeros := range []string{"", "0", times(30, "0")} {
				checkQuery(t, front+word+zeros+text+behind, counted(w))
			}
		}
		for _, text := range strings.Fields("0 00 1073741825 0001073741825 1073741826 2147483648 4294967296 4294967297 1099511627776 9223372036854775807") {
			for _, behind := range []string{"", " ", " every " + text, " every 5", " every 0", " by key", " )", " select"} {
				checkAt(t, front+word+"#"+text+behind, api.ErrRange)
			}
		}
		checkAt(t, front+word+"#9223372036854775808", api.ErrRange)
		checkAt(t, front+word+"#-1", api.ErrForm)
	}
	checkAt(t, "select count(*) from a join b window tumble #0", api.ErrRange)
	checkAt(t, "select count(*) from a join b window tumble #1073741825 5", api.ErrRange)
}

// P9.1: an Every from 1 to Size, of which the Size is at most 16 times as much, and others, whatever is behind them.
func TestEverys(t *testing.T) {
	// For each Size the least Every.
	for size, least := range map[int64]int64{1: 1, 2: 1, 15: 1, 16: 1, 17: 2, 32: 2, 33: 3, 48: 3, 49: 4, 160: 10, 161: 11, 1 << 30: 1 << 26, 1<<30 - 1: 1 << 26, 1<<30 - 15: 1 << 26, 1<<30 - 16: 1<<26 - 1} {
		text := front + "slide " + strconv.FormatInt(size, 10) + " every "
		for _, every := range []int64{least, min(least+1, size), (least + size) / 2, max(least, size-1), size} {
			checkQuery(t, text+strconv.FormatInt(every, 10), counted(slide(size, every)))
			checkQuery(t, text+"00"+strconv.FormatInt(every, 10), counted(slide(size, every)))
		}
		for _, every := range []int64{0, least - 1, size + 1, size + 2, size * 2, 1 << 32, 1<<32 + size, 1 << 60, 1<<60 + size, 1<<63 - 1} {
			for _, behind := range []string{"", " ", " by key late side", " by", " late drop 5", " every"} {
				checkAt(t, text+"#"+strconv.FormatInt(every, 10)+behind, api.ErrRange)
			}
		}
	}
	for size := range 70 {
		for every := range 72 {
			checkReference(t, front+"slide "+strconv.Itoa(size)+" every "+strconv.Itoa(every))
		}
	}
}

// P9.1: "slide" and "session" behind a join, whatever is behind them.
func TestJoinedWindows(t *testing.T) {
	for _, s := range []string{"select count(*) from a join b window ", "select sum(v) from d join a where v > 1 window "} {
		for _, word := range []string{"slide", "session"} {
			for _, behind := range []string{"", " ", " 5", " 5 every 5", " 0", " every", " 17 every 1", " )", " 5 by", " 5 late side", " slide", " tumble 5"} {
				checkAt(t, s+"#"+word+behind, api.ErrBad)
			}
		}
		checkAt(t, s+"tumble#", api.ErrForm)
		checkAt(t, s+"tumble 5 #every 5", api.ErrMore)
		if !checkReference(t, s+"tumble 5") {
			t.Errorf("%q is no query", s+"tumble 5")
		}
	}
}

// P9.1: a name that was there before, behind "union" and behind "join", whatever is behind it.
func TestNames(t *testing.T) {
	for _, s := range []string{
		"a union #a", "b union #b", "c union #c", "d union #d", "a join #a", "b join #b", "c join #c", "d join #d",
		"a union b union #a", "a union b union #b", "d union a union c union #a", "c union b union a union #c",
		"a union b union c union d union #a", "a union b union c union d union #d", "d union c union b union a union #c",
	} {
		for _, behind := range []string{"", " window tumble 5", " where", " union", " union b window tumble 5", " join b", " union d union d", " )", " 5", " window slide 0"} {
			checkAt(t, "select count(*) from "+s+behind, api.ErrName)
		}
	}
	// All lists of four names, two of them joined, and one more.
	names := []string{"a", "b", "c", "d"}
	for i := range 256 {
		p, q, r, s := names[i&3], names[i>>2&3], names[i>>4&3], names[i>>6]
		checkReference(t, "select sum(v) from "+p+" union "+q+" union "+r+" union "+s+" window session 5 by key")
		checkReference(t, "select sum(v) from "+p+" union "+q+" union "+r+" window session 5")
		checkReference(t, "select sum(v) from "+p+" join "+q+" window tumble "+r+s)
		checkReference(t, "select sum(v) from "+p+" join "+q+" window tumble 5")
		for _, more := range names {
			checkReference(t, "select sum(v) from "+p+" union "+q+" union "+r+" union "+s+" union "+more+" window tumble 5")
		}
	}
}

// sum returns an expression of 59 nodes: a sum of six products of five numbers.
func sum() string { return "1*2*3*4*5" + times(5, "+1*2*3*4*5") }

// P9.1: the error of an expression at the place of a token, in an argument and in a condition.
func TestExpressionErrors(t *testing.T) {
	for text, e := range map[string]api.Errno{
		"#)": api.ErrForm, "v + #)": api.ErrForm, "#* v": api.ErrForm, "v * #* k": api.ErrForm, "v << - #< k": api.ErrForm, "v and #and k": api.ErrForm, "(v #window": api.ErrForm, "(v + (k #7))": api.ErrForm,
		"- #not v": api.ErrForm, "v + #not k": api.ErrForm, "#a": api.ErrForm, "v = #b": api.ErrForm, "#key": api.ErrForm, "not #where": api.ErrForm, "(v < 1 #< 2)": api.ErrForm,
		"#" + times(20, "-") + "v": api.ErrDeep, "--#" + times(20, "-") + "v": api.ErrDeep, "k + (#" + times(20, "not ") + "v)": api.ErrDeep, "k #+ " + times(19, "-") + "v": api.ErrDeep, "v" + times(19, "+1") + "#+1+1": api.ErrDeep,
		sum() + "#<<k": api.ErrMany, "k #<< " + sum(): api.ErrMany, "#-(-(" + sum() + "))": api.ErrMany, "(" + sum() + ") #* (" + sum() + ")": api.ErrMany, "(#not not (" + sum() + "))": api.ErrMany,
		"#" + times(20, "-") + "v + )": api.ErrDeep, times(20, "-") + "(v + #)": api.ErrForm, "k #<< " + sum() + " < )": api.ErrMany,
	} {
		checkAt(t, "select sum("+text+") from a window tumble 5", e)
		checkAt(t, "select max(\n"+text, e)
		checkAt(t, "select count(*) from a where "+text+" window tumble 5", e)
		checkAt(t, "select min(v) from b join c where "+text+" window session 5", e)
	}
}

// P9.1: the error of an expression at the end, and at what is behind it.
func TestExpressionEnds(t *testing.T) {
	for _, text := range []string{"", "-", "not", "(", "v +", "v + (k *", "(v", "((v)", "v and not", times(20, "-"), "v = (1 <"} {
		for _, blanks := range []string{"", " ", " \n"} {
			checkAt(t, "select min("+text+blanks+"#", api.ErrForm)
			checkAt(t, "select min("+text+blanks+" #from a window tumble 5", api.ErrForm)
			checkAt(t, "select count(*) from a where "+text+blanks+"#", api.ErrForm)
			checkAt(t, "select count(*) from a where "+text+blanks+" #window tumble 5", api.ErrForm)
		}
	}
}

// P9.1: the greatest expressions are read.
func TestGreatExpressions(t *testing.T) {
	const agg, where = "select sum(", ") from a where "
	for _, text := range []string{sum(), "-(" + sum() + ")", "not " + sum(), times(19, "-") + "v", "v" + times(19, "+1"), times(40, "(") + "v" + times(40, ")")} {
		checkQuery(t, agg+text+where+text+" window tumble 5", api.Query{
			Agg: api.AgSum, Arg: expression(text, len(agg)), Sources: []int{0},
			Where: expression(text, len(agg+text+where)), Window: tumble(5), Late: api.LaDrop,
		})
	}
}

// P9.1: the error of lexer.All and its index, ahead of all that is wrong in front of it.
func TestTokenErrors(t *testing.T) {
	for _, s := range []string{"", "select ", "from a ", "select count(*) from a join a ", front + "tumble 0 ", simple + " ", simple + " 5 ", "select sum(v + ) ", "select count(*) from a join b window slide 5 ", "select sum(" + times(20, "-") + "v) "} {
		for _, behind := range []string{"", " ", " select", " !", " 9223372036854775808"} {
			for _, text := range []string{"!", "hop", "A", "x", ",", "\t", "\x00", "\xff", "é", "windows", "keys"} {
				checkAt(t, s+"#"+text+behind, api.ErrToken)
			}
			checkAt(t, s+"#9223372036854775808"+behind, api.ErrRange)
			checkAt(t, s+"#99999999999999999999999999"+behind, api.ErrRange)
		}
	}
	checkAt(t, front+"#hop 1", api.ErrToken)
	checkAt(t, simple+"#_", api.ErrToken)
	checkAt(t, simple+" by #keys", api.ErrToken)
	checkAt(t, "#Select count(*) from a window tumble 5", api.ErrToken)
}

// P9.1: a text of 400 bytes is read, and one of 401 is ErrMany at 0, whatever it is.
func TestMostBytes(t *testing.T) {
	rest := times(400-len(simple), " ")
	checkQuery(t, simple+rest, counted(tumble(5)))
	checkQuery(t, rest+simple, counted(tumble(5)))
	checkQuery(t, front+"tumble "+times(400-len(simple), "0")+"5", counted(tumble(5)))
	checkError(t, simple+rest+" ", api.ErrMany, 0)
	checkError(t, " "+rest+simple, api.ErrMany, 0)
	for _, s := range []string{times(401, " "), times(401, "!"), times(401, "v"), times(5000, "select "), times(1<<20, "(")} {
		checkError(t, s, api.ErrMany, 0)
	}
}

// P9.1: 200 tokens are read, and one more is ErrMany at its place, whatever it is.
func TestMostTokens(t *testing.T) {
	for brackets := 92; brackets <= 95; brackets++ {
		s := "select sum(" + times(brackets, "(") + "v" + times(brackets, ")") + ") from a window tumble 5"
		want := api.Query{Agg: api.AgSum, Arg: []api.Node{{Kind: api.NoValue, At: 11 + brackets}}, Sources: []int{0}, Window: tumble(5), Late: api.LaDrop}
		checkQuery(t, s, want)
		want.ByKey = true
		switch brackets {
		case 95:
			// There are 200 tokens.
			checkAt(t, s+" #by key", api.ErrMany)
			checkAt(t, s+" #)", api.ErrMany)
			checkAt(t, s+" #!", api.ErrMany)
		case 94:
			checkQuery(t, s+" by key", want)
			checkAt(t, s+" by key #late side", api.ErrMany)
			checkAt(t, s+" by key #by", api.ErrMany)
			checkAt(t, s+" by #late", api.ErrForm)
		default:
			checkQuery(t, s+" by key late drop", want)
		}
	}
	checkError(t, times(200, ")"), api.ErrForm, 0)
	checkError(t, times(201, ")"), api.ErrMany, 200)
}

// P1 (R1), P9.1: of several things that are wrong the first one counts.
func TestFirstWrong(t *testing.T) {
	for s, e := range map[string]api.Errno{
		"#from select from":                                         api.ErrForm,
		"select #5 from a join a window tumble 0":                   api.ErrForm,
		"select count(#v) from a union a window tumble 0":           api.ErrForm,
		"select sum(#) from a join a window slide 0 by":             api.ErrForm,
		"select sum(#" + times(20, "-") + "v from 5":                api.ErrDeep,
		"select sum(v #from a union a where":                        api.ErrForm,
		"select count(*) #a join a window session":                  api.ErrForm,
		"select count(*) from #5 join 5 window session 0":           api.ErrForm,
		"select count(*) from a join #a join a window session 0":    api.ErrName,
		"select count(*) from a union #a where ) window slide 0":    api.ErrName,
		"select count(*) from a join b #join b window slide 5":      api.ErrForm,
		"select count(*) from a join b where #) window slide 5":     api.ErrForm,
		"select count(*) from a join b where v #7 window slide 5":   api.ErrForm,
		"select count(*) from a join b where v window #slide 0 7":   api.ErrBad,
		"select count(*) from a where v < 1 #< 2 window tumble 0":   api.ErrForm,
		front + "#every 0 every 0":                                  api.ErrForm,
		front + "slide #0 every 0":                                  api.ErrRange,
		front + "slide #1073741825 by 5":                            api.ErrRange,
		front + "slide 5 #5 every 6 by by":                          api.ErrForm,
		front + "slide 5 every #6 every by key late":                api.ErrRange,
		front + "tumble #0 by 7":                                    api.ErrRange,
		front + "tumble 5 #slide 0":                                 api.ErrMore,
		front + "tumble 5 by #7 late 7":                             api.ErrForm,
		front + "tumble 5 by key late #7 late":                      api.ErrForm,
		front + "tumble 5 late drop #by by":                         api.ErrMore,
		front + "tumble 0 by 7 late #windows":                       api.ErrToken,
		"select count(*) from a join a window #9223372036854775808": api.ErrRange,
	} {
		checkAt(t, s, e)
	}
}

// walked returns a query with all that may stand in each state, taken at random, as texts of tokens.
func walked(r *rand.Rand) []string {
	var l []string
	names, size := r.Perm(4), 1
	for state := ""; ; {
		class := slices.Sorted(maps.Keys(grammar[state]))[r.Intn(len(grammar[state]))]
		switch class {
		case "end":
			return l
		case "expr":
			l = append(l, random(r, r.Intn(5))...)
		case "name":
			l = append(l, "abcd"[names[0]:names[0]+1])
			// Behind four names this one was there before.
			names = append(names[1:], names[0])
		case "Size":
			size = 1 + r.Intn(1<<r.Intn(30))
			l = append(l, strconv.Itoa(size))
		case "Every":
			l = append(l, strconv.Itoa(size/(1+r.Intn(17))))
		default:
			l = append(l, class)
		}
		state = grammar[state][class]
	}
}

// random returns an expression with at most so many parts in parts, as texts of tokens.
func random(r *rand.Rand, depth int) []string {
	one := func() []string { return append(append([]string{"("}, random(r, depth-1)...), ")") }
	switch {
	case depth == 0 || r.Intn(4) == 0:
		return strings.Fields("k t v 0 7 1073741824")[r.Intn(6):][:1]
	case r.Intn(4) == 0:
		return append([]string{[]string{"-", "not"}[r.Intn(2)]}, one()...)
	}
	operators := strings.Fields("* + - << >> < <= > >= = != and or")
	return append(append(one(), operators[r.Intn(len(operators))]), one()...)
}

// spaced returns tokens with blanks between, which may be none where no token changes by it.
func spaced(r *rand.Rand, l []string) string {
	s, blanks := "", []string{" ", "\n", "  ", " \n"}
	for _, text := range l {
		tokens, _, _ := lexer.All(s + text)
		if last := len(tokens) - 1; last < 0 || tokens[last].Text != text || r.Intn(2) == 0 {
			s += blanks[r.Intn(4)]
		}
		s += text
	}
	return s
}

// P9.1, P9.2: random queries with random blanks, as they are, and with a few tokens changed, left out or put in.
func TestRandom(t *testing.T) {
	r := rand.New(rand.NewSource(1))
	queries := 0
	for range 6000 {
		l := walked(r)
		if checkReference(t, spaced(r, l)) {
			queries++
		}
		for range r.Intn(3) {
			i, text := r.Intn(len(l)), allTexts[r.Intn(len(allTexts))]
			l = slices.Replace(l, i, i+r.Intn(2), []string{text, text}[:r.Intn(3)]...)
			if len(l) == 0 {
				break
			}
		}
		checkReference(t, spaced(r, l))
	}
	if queries < 1500 {
		t.Errorf("only %d are queries", queries)
	}
}

// P1 (R7): each call ends, whatever the text is.
func TestAnyText(t *testing.T) {
	r := rand.New(rand.NewSource(2))
	for range 20000 {
		l := make([]byte, r.Intn(420))
		r.Read(l)
		checkReference(t, string(l))
		var some []string
		for range r.Intn(30) {
			some = append(some, allTexts[r.Intn(len(allTexts))])
		}
		checkReference(t, joined(some...))
		text := []byte(samples[r.Intn(len(samples))])
		text[r.Intn(len(text))] = byte(r.Intn(256))
		checkReference(t, string(text))
	}
}

// P1 (R2): a result that is changed, or appended to, changes no other one, and no part of its own.
func TestResultsAreNew(t *testing.T) {
	for _, l := range choices() {
		s, want := whole(l)
		first, _, _ := parser.Parse(s)
		second, _, _ := parser.Parse(s)
		_ = append(first.Sources, 9, 9, 9, 9)
		_ = append(first.Arg, make([]api.Node, 60)...)
		_ = append(first.Where, make([]api.Node, 60)...)
		if !equal(first, want) {
			t.Errorf("the query of %q is %v when its parts are appended to, want %v", s, first, want)
		}
		for i := range first.Sources {
			first.Sources[i] = 9
		}
		for _, nodes := range [][]api.Node{first.Arg, first.Where} {
			for i := range nodes {
				nodes[i] = api.Node{Kind: 99}
			}
		}
		if !equal(second, want) {
			t.Errorf("the query of %q is %v when another one is changed, want %v", s, second, want)
		}
		checkQuery(t, s, want)
	}
}

// P1 (R2): what was parsed before does not matter.
func TestNothingIsKept(t *testing.T) {
	s, want := whole([]part{aggregates()[3], sources()[7], conditions()[4], windows()[2], keys()[1], lates()[2]})
	for _, before := range append(slices.Clone(samples), "", "!", times(401, " "), "select sum(", front+"slide 0", "select count(*) from a join a") {
		checkReference(t, before)
		checkQuery(t, s, want)
		checkQuery(t, simple, counted(tumble(5)))
	}
}
