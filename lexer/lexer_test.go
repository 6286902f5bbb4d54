package lexer_test

import (
	"math"
	"math/rand"
	"regexp"
	"slices"
	"strconv"
	"strings"
	"testing"
	"unsafe"

	"tailwater/api"
	"tailwater/lexer"
)

// number, word and symbol return tokens by their kinds.
func number(text string, at int) api.Token { return api.Token{Kind: 1, Text: text, At: at} }
func word(text string, at int) api.Token   { return api.Token{Kind: 2, Text: text, At: at} }
func symbol(text string, at int) api.Token { return api.Token{Kind: 3, Text: text, At: at} }

// symbolList returns the symbols as chapter 2 names them.
func symbolList() []string {
	return strings.Fields("( ) * + - < <= << > >= >> = !=")
}

// wordList returns the words as chapter 2 names them.
func wordList() []string {
	return strings.Fields("select count sum min max from union join where window tumble slide every session by key late drop side and or not a b c d k t v")
}

// numberList returns digits that are numbers, the greatest one among them.
func numberList() []string {
	return []string{"0", "7", "12", "007", "9223372036854775807", "0009223372036854775807", strings.Repeat("0", 50)}
}

// greatest is the greatest number that layer 1 reads, and tooGreat the one behind it.
const (
	greatest = "9223372036854775807"
	tooGreat = "9223372036854775808"
)

// checkTokens fails the test unless a text has these tokens.
func checkTokens(t *testing.T, s string, want []api.Token) {
	t.Helper()
	if l, n, e := lexer.All(s); e != api.OK || n != len(s) || !slices.Equal(l, want) {
		t.Errorf("All(%q) is %v, %d, %v, want %v", s, l, n, e, want)
	}
}

// checkError fails the test unless a text has this error at this index, and no tokens.
func checkError(t *testing.T, s string, want api.Errno, at int) {
	t.Helper()
	if l, n, e := lexer.All(s); e != want || n != at || len(l) != 0 {
		t.Errorf("All(%q) is %v, %d, %v, want %v at %d", s, l, n, e, want, at)
	}
}

// checkJoin fails the test unless tokens are joined to a text.
func checkJoin(t *testing.T, l []api.Token, want string) {
	t.Helper()
	if s, e := lexer.Join(l); e != api.OK || s != want {
		t.Errorf("Join(%v) is %q, %v, want %q", l, s, e, want)
	}
}

// checkNoJoin fails the test unless Join gives this error, and no text.
func checkNoJoin(t *testing.T, l []api.Token, want api.Errno) {
	t.Helper()
	if s, e := lexer.Join(l); e != want || s != "" {
		t.Errorf("Join(%v) is %q, %v, want %v", l, s, e, want)
	}
}

// texts returns the texts of tokens.
func texts(l []api.Token) []string {
	var all []string
	for _, token := range l {
		all = append(all, token.Text)
	}
	return all
}

// repeated returns so many tokens, each of which is this one.
func repeated(token api.Token, n int) []api.Token {
	return slices.Repeat([]api.Token{token}, n)
}

// allTokens returns one token of each symbol, each word and some numbers, all of them valid.
func allTokens() []api.Token {
	var l []api.Token
	for _, text := range symbolList() {
		l = append(l, symbol(text, 0))
	}
	for _, text := range wordList() {
		l = append(l, word(text, 0))
	}
	for _, text := range numberList() {
		l = append(l, number(text, 0))
	}
	return l
}

// P3.1: ordinary texts.
func TestAllGives(t *testing.T) {
	checkTokens(t, "sum(v)<=12", []api.Token{word("sum", 0), symbol("(", 3), word("v", 4), symbol(")", 5), symbol("<=", 6), number("12", 8)})
	checkTokens(t, "12a", []api.Token{number("12", 0), word("a", 2)})
	checkTokens(t, "select sum(v - 2*k)\nfrom a union b\nwhere not t>=-10 and k!=0", []api.Token{
		word("select", 0), word("sum", 7), symbol("(", 10), word("v", 11), symbol("-", 13), number("2", 15), symbol("*", 16), word("k", 17), symbol(")", 18),
		word("from", 20), word("a", 25), word("union", 27), word("b", 33),
		word("where", 35), word("not", 41), word("t", 45), symbol(">=", 46), symbol("-", 48), number("10", 49), word("and", 52), word("k", 56), symbol("!=", 57), number("0", 59),
	})
	checkTokens(t, "window slide 10 every 5\nby key\nlate side", []api.Token{
		word("window", 0), word("slide", 7), number("10", 13), word("every", 16), number("5", 22), word("by", 24), word("key", 27), word("late", 31), word("side", 36),
	})
}

// P3.1: each token there is, alone and with blanks around it.
func TestAllReadsEachToken(t *testing.T) {
	for _, want := range allTokens() {
		for _, front := range []string{"", " ", "\n", "  \n "} {
			for _, back := range []string{"", " ", "\n", "\n \n"} {
				want.At = len(front)
				checkTokens(t, front+want.Text+back, []api.Token{want})
			}
		}
	}
}

// P3.1: the empty text, and texts of blanks alone, have no tokens, but a length.
func TestAllWithoutTokens(t *testing.T) {
	for _, s := range []string{"", " ", "\n", " \n ", "\n\n", strings.Repeat(" ", 400), strings.Repeat("\n", 400), strings.Repeat(" \n", 200)} {
		checkTokens(t, s, nil)
	}
}

// P3.1: digits, letters and symbols are told apart without a gap, and the longest symbol is taken.
func TestAllWithoutGaps(t *testing.T) {
	for s, want := range map[string][]api.Token{
		"a1":     {word("a", 0), number("1", 1)},
		"1a":     {number("1", 0), word("a", 1)},
		"1 2":    {number("1", 0), number("2", 2)},
		"a b":    {word("a", 0), word("b", 2)},
		"k7v8t":  {word("k", 0), number("7", 1), word("v", 2), number("8", 3), word("t", 4)},
		"<<=":    {symbol("<<", 0), symbol("=", 2)},
		"<<<":    {symbol("<<", 0), symbol("<", 2)},
		"<<<=":   {symbol("<<", 0), symbol("<=", 2)},
		"< <=":   {symbol("<", 0), symbol("<=", 2)},
		"<= <":   {symbol("<=", 0), symbol("<", 3)},
		"< <":    {symbol("<", 0), symbol("<", 2)},
		"<\n=":   {symbol("<", 0), symbol("=", 2)},
		"<>":     {symbol("<", 0), symbol(">", 1)},
		">>>=":   {symbol(">>", 0), symbol(">=", 2)},
		"=>":     {symbol("=", 0), symbol(">", 1)},
		"==":     {symbol("=", 0), symbol("=", 1)},
		"=!=":    {symbol("=", 0), symbol("!=", 1)},
		"!==":    {symbol("!=", 0), symbol("=", 2)},
		"<!=>":   {symbol("<", 0), symbol("!=", 1), symbol(">", 3)},
		"--1":    {symbol("-", 0), symbol("-", 1), number("1", 2)},
		"((*)+)": {symbol("(", 0), symbol("(", 1), symbol("*", 2), symbol(")", 3), symbol("+", 4), symbol(")", 5)},
		"a<=1":   {word("a", 0), symbol("<=", 1), number("1", 3)},
		"1<<2":   {number("1", 0), symbol("<<", 1), number("2", 3)},
		"t!=0":   {word("t", 0), symbol("!=", 1), number("0", 3)},
	} {
		checkTokens(t, s, want)
	}
}

// P3.1: letters that are no word.
func TestAllNoWord(t *testing.T) {
	for s, at := range map[string]int{
		"su m": 0, "x": 0, "selec": 0, "selects": 0, "ab": 0, "aa": 0, "bykey": 0, "kv": 0, "fromm": 0, "zz top": 0,
		"a b x": 4, "sum(x)": 4, "0x0": 1, " \n e": 3, "12e3": 2, "1aa": 1, "a=ab": 2, "select sums": 7, strings.Repeat("a", 400): 0, strings.Repeat(" ", 399) + "x": 399,
	} {
		checkError(t, s, api.ErrToken, at)
	}
}

// P3.1: bytes at which no symbol begins, all bytes of no kind among them.
func TestAllNoSymbol(t *testing.T) {
	for s, at := range map[string]int{
		"!": 0, "a ! b": 2, "a!b": 1, "! =": 0, "!!=": 0, "!<": 0, "a!=!b": 3, "12 $": 3, "1,2": 1, "1.5": 1, "a\tb": 1, "a\r\nb": 1, "a\x00": 1, "A": 0, "aB": 1, "Select": 0, "(a)[": 3, "a&&b": 1, "\xe2\x89\xa4": 0, "a \xc2\xa0b": 2, strings.Repeat(" ", 399) + "!": 399,
	} {
		checkError(t, s, api.ErrToken, at)
	}
	for c := range 256 {
		if strings.IndexByte("\n 0123456789abcdefghijklmnopqrstuvwxyz()*+-<=>", byte(c)) >= 0 {
			continue
		}
		one := string([]byte{byte(c)})
		checkError(t, one, api.ErrToken, 0)
		checkError(t, "sum 12\n"+one+" a", api.ErrToken, 7)
		checkError(t, "<="+one, api.ErrToken, 2)
		checkError(t, "007"+one+"0", api.ErrToken, 3)
		checkError(t, "key"+one+"key", api.ErrToken, 3)
	}
}

// P3.1: digits that are no number, next to those of the greatest number.
func TestAllNumbers(t *testing.T) {
	checkTokens(t, greatest, []api.Token{number(greatest, 0)})
	checkTokens(t, "-"+greatest+"a", []api.Token{symbol("-", 0), number(greatest, 1), word("a", 20)})
	zeros := strings.Repeat("0", 381)
	checkTokens(t, zeros+greatest, []api.Token{number(zeros+greatest, 0)})
	checkTokens(t, strings.Repeat("0", 400), []api.Token{number(strings.Repeat("0", 400), 0)})

	checkError(t, tooGreat, api.ErrRange, 0)
	checkError(t, "-"+tooGreat, api.ErrRange, 1)
	checkError(t, zeros+tooGreat, api.ErrRange, 0)
	checkError(t, strings.Repeat("9", 400), api.ErrRange, 0)
	checkError(t, "18446744073709551616", api.ErrRange, 0)
	checkError(t, "a <= \n10000000000000000000a", api.ErrRange, 6)
	checkError(t, strings.Repeat(" ", 381)+tooGreat, api.ErrRange, 381)
}

// P3.1: of several errors the first one in the text is returned.
func TestAllFirstError(t *testing.T) {
	checkError(t, "a "+tooGreat+" x !", api.ErrRange, 2)
	checkError(t, "a x "+tooGreat, api.ErrToken, 2)
	checkError(t, "a ! x "+tooGreat, api.ErrToken, 2)
	checkError(t, tooGreat+"!", api.ErrRange, 0)
	checkError(t, "!"+tooGreat, api.ErrToken, 0)
	checkError(t, "xyz$", api.ErrToken, 0)
}

// P3.1: texts of 400 bytes are read, and those of 401 are ErrMany at 0, whatever is in them.
func TestAllLongest(t *testing.T) {
	checkTokens(t, strings.Repeat(" ", 397)+"sum", []api.Token{word("sum", 397)})
	checkTokens(t, "sum"+strings.Repeat(" ", 397), []api.Token{word("sum", 0)})
	checkTokens(t, "12"+strings.Repeat("\n", 396)+"<=", []api.Token{number("12", 0), symbol("<=", 398)})
	for _, s := range []string{
		strings.Repeat(" ", 401), strings.Repeat("\n", 401), "sum" + strings.Repeat(" ", 398), strings.Repeat(" ", 398) + "sum",
		strings.Repeat("0", 401), strings.Repeat("9", 401), strings.Repeat("a", 401), strings.Repeat("!", 401), strings.Repeat("a ", 200) + "a", strings.Repeat("(", 401),
		"!" + strings.Repeat(" ", 400), "x" + strings.Repeat(" ", 400), strings.Repeat(" ", 1000), strings.Repeat("\xff", 1<<16),
	} {
		checkError(t, s, api.ErrMany, 0)
	}
}

// P3.1: 200 tokens are read, and one more is ErrMany at its first byte, whatever it is.
func TestAllMostTokens(t *testing.T) {
	var pairs, brackets []api.Token
	for i := range 200 {
		pairs = append(pairs, word("a", 2*i))
		brackets = append(brackets, symbol("(", i))
	}
	checkTokens(t, strings.Repeat("a ", 200), pairs)
	checkTokens(t, strings.Repeat("(", 200), brackets)
	checkTokens(t, strings.Repeat("(", 200)+strings.Repeat(" \n", 100), brackets)

	many := strings.Repeat("(", 200)
	for _, more := range []string{"(", "a", "7", "!=", "!", "$", "x", "A", "xyz", tooGreat, "a b", "((", "\x00", "\xff"} {
		checkError(t, many+more, api.ErrMany, 200)
		checkError(t, many+" \n"+more+" ", api.ErrMany, 202)
	}
	checkError(t, many+many, api.ErrMany, 200)
	checkError(t, strings.Repeat("1a", 200), api.ErrMany, 200)
	checkError(t, strings.Repeat("1a", 100)+strings.Repeat(" ", 199)+"<", api.ErrMany, 399)
}

// P3.1: an error among the first 200 tokens comes before a token too many.
func TestAllErrorBeforeMany(t *testing.T) {
	few := strings.Repeat("(", 199)
	checkError(t, few+"!"+few, api.ErrToken, 199)
	checkError(t, few+"x("+few, api.ErrToken, 199)
	checkError(t, few+tooGreat+"((", api.ErrRange, 199)
	checkError(t, "$"+few+few, api.ErrToken, 0)
}

// reference returns what All has to return, told by patterns.
func reference(s string) ([]api.Token, int, api.Errno) {
	if len(s) > 400 {
		return nil, 0, api.ErrMany
	}
	patterns := [...]*regexp.Regexp{
		regexp.MustCompile(`^[ \n]+`), regexp.MustCompile(`^[0-9]+`), regexp.MustCompile(`^[a-z]+`), regexp.MustCompile(`^(<<|<=|>>|>=|!=|[()*+<>=-])`),
	}
	var l []api.Token
	for at := 0; at < len(s); {
		kind, n := 0, 0
		for k, pattern := range patterns {
			if found := pattern.FindString(s[at:]); found != "" {
				kind, n = k, len(found)
			}
		}
		text := s[at : at+n]
		_, err := strconv.ParseInt(text, 10, 64)
		switch {
		case kind == 0 && n > 0:
			at += n
			continue
		case len(l) == 200:
			return nil, at, api.ErrMany
		case n == 0 || kind == 2 && !slices.Contains(wordList(), text):
			return nil, at, api.ErrToken
		case kind == 1 && err != nil:
			return nil, at, api.ErrRange
		}
		l = append(l, api.Token{Kind: uint8(kind), Text: text, At: at})
		at += n
	}
	return l, len(s), api.OK
}

// checkReference fails the test unless All returns what the reference does.
func checkReference(t *testing.T, s string) {
	t.Helper()
	want, at, err := reference(s)
	if l, n, e := lexer.All(s); e != err || n != at || !slices.Equal(l, want) {
		t.Errorf("All(%q) is %v, %d, %v, want %v, %d, %v", s, l, n, e, want, at, err)
	}
}

// P3.1: all texts of few bytes, made of some of each kind.
func TestAllShortTexts(t *testing.T) {
	level := []string{""}
	for range 4 {
		var next []string
		for _, s := range level {
			for _, c := range " \n09abty(-<=>!$" {
				next = append(next, s+string(c))
			}
		}
		level = next
		for _, s := range level {
			checkReference(t, s)
		}
	}
}

// P3.1: texts of pieces in a row, good and bad ones.
func TestAllMixedTexts(t *testing.T) {
	r := rand.New(rand.NewSource(3))
	pieces := slices.Concat(symbolList(), wordList(), numberList()[:5], []string{" ", " ", " ", "\n", "\n", "  "})
	bad := []string{"!", "x", "$", "\x00", "\xff", tooGreat, "A"}
	for i := range 4000 {
		var s strings.Builder
		for range r.Intn(1 + i%250) {
			from := pieces
			if r.Intn(100) == 0 {
				from = bad
			}
			s.WriteString(from[r.Intn(len(from))])
			if r.Intn(3) > 0 {
				s.WriteByte(' ')
			}
		}
		checkReference(t, s.String())
	}
}

// P3.2: texts of tokens, with a blank between any two.
func TestJoinGives(t *testing.T) {
	checkJoin(t, nil, "")
	checkJoin(t, []api.Token{}, "")
	checkJoin(t, []api.Token{number("12", 0)}, "12")
	checkJoin(t, []api.Token{number("12", 0), word("a", 2)}, "12 a")
	checkJoin(t, []api.Token{word("sum", 0), symbol("(", 3), word("v", 4), symbol(")", 5), symbol("<=", 6), number("12", 8)}, "sum ( v ) <= 12")
	checkJoin(t, []api.Token{symbol("<", 0), symbol("<", 1), symbol("=", 2), number("007", 0), number(greatest, 0)}, "< < = 007 "+greatest)
	for _, token := range allTokens() {
		checkJoin(t, []api.Token{token}, token.Text)
		checkJoin(t, []api.Token{token, token, token}, token.Text+" "+token.Text+" "+token.Text)
	}
	checkJoin(t, allTokens(), strings.Join(texts(allTokens()), " "))
}

// P3.2: the place of a token may be any number, and is not looked at.
func TestJoinAnyPlace(t *testing.T) {
	for _, at := range []int{0, 1, -1, 400, 401, math.MaxInt, math.MinInt} {
		checkJoin(t, []api.Token{number("1", at), symbol("+", at), word("k", at)}, "1 + k")
	}
	checkJoin(t, []api.Token{word("b", 9), word("a", 5), word("c", -7)}, "b a c")
}

// P3.2: tokens that are not valid, by their kinds and their texts.
func TestJoinNotValid(t *testing.T) {
	for _, token := range []api.Token{
		{}, {Text: "12"}, {Text: "a"}, {Text: "("}, {At: 1},
		number("", 0), word("", 0), symbol("", 0),
		number("a", 0), number("(", 0), word("12", 0), word("<=", 0), symbol("12", 0), symbol("a", 0), symbol("sum", 0),
		number(tooGreat, 0), number(strings.Repeat("9", 500), 0), number("-1", 0), number("+1", 0), number("1_0", 0), number("0x1", 0), number("1.0", 0), number("1 ", 0), number(" 1", 0), number("12a", 0), number("\xd9\xa1", 0),
		word("x", 0), word("su", 0), word("sums", 0), word("Sum", 0), word("sum ", 0), word(" sum", 0), word("a b", 0), word("ab", 0), word("a1", 0), word("su m", 0), word("\xff", 0),
		symbol("!", 0), symbol("<<=", 0), symbol("<<<", 0), symbol("< ", 0), symbol(" <", 0), symbol("< =", 0), symbol("==", 0), symbol("=!", 0), symbol("!==", 0), symbol("()", 0), symbol("<a", 0), symbol("&", 0), symbol(",", 0), symbol("$", 0), symbol(" ", 0), symbol("\n", 0), symbol("\x00", 0),
	} {
		checkNoJoin(t, []api.Token{token}, api.ErrBad)
		checkNoJoin(t, []api.Token{word("a", 0), token}, api.ErrBad)
		checkNoJoin(t, []api.Token{token, number("1", 0)}, api.ErrBad)
		checkNoJoin(t, slices.Concat(repeated(symbol("<", 0), 150), []api.Token{token}, repeated(symbol("<", 0), 49)), api.ErrBad)
	}
}

// P3.2: a token has one kind alone, that of its text.
func TestJoinKinds(t *testing.T) {
	for _, token := range allTokens() {
		for kind := range 256 {
			other := api.Token{Kind: uint8(kind), Text: token.Text, At: 5}
			if other.Kind == token.Kind {
				checkJoin(t, []api.Token{other}, token.Text)
			} else {
				checkNoJoin(t, []api.Token{other}, api.ErrBad)
			}
		}
	}
}

// P3.2: 200 tokens are joined, and 201 are ErrMany before anything else.
func TestJoinMostTokens(t *testing.T) {
	checkJoin(t, repeated(symbol("<", 7), 200), strings.Repeat("< ", 199)+"<")
	for _, token := range []api.Token{symbol("<", 0), symbol("!", 0), {}, number(tooGreat, 0), word("x", 0), number(strings.Repeat("0", 401), 0), word("select", 0)} {
		checkNoJoin(t, repeated(token, 201), api.ErrMany)
		checkNoJoin(t, repeated(token, 1000), api.ErrMany)
		checkNoJoin(t, append(repeated(symbol("<", 0), 200), token), api.ErrMany)
		checkNoJoin(t, append([]api.Token{token}, repeated(symbol("<", 0), 200)...), api.ErrMany)
	}
}

// P3.2: a text of 400 bytes, the blanks among them, is the longest one.
func TestJoinLongest(t *testing.T) {
	checkJoin(t, []api.Token{number(strings.Repeat("0", 400), 0)}, strings.Repeat("0", 400))
	checkNoJoin(t, []api.Token{number(strings.Repeat("0", 401), 0)}, api.ErrFull)
	checkNoJoin(t, []api.Token{number(strings.Repeat("0", 1<<20), 0)}, api.ErrFull)

	digits := strings.Repeat("0", 398)
	checkJoin(t, []api.Token{number(digits, 0), symbol("<", 0)}, digits+" <")
	checkJoin(t, []api.Token{symbol("<", 0), number(digits, 0)}, "< "+digits)
	checkNoJoin(t, []api.Token{number(digits, 0), symbol("<=", 0)}, api.ErrFull)
	checkNoJoin(t, []api.Token{symbol("<=", 0), number(digits, 0)}, api.ErrFull)
	checkNoJoin(t, []api.Token{number(digits, 0), symbol("<", 0), symbol("<", 0)}, api.ErrFull)

	ones := repeated(symbol("<", 0), 199)
	checkJoin(t, append(ones, symbol("<=", 0)), strings.Repeat("< ", 199)+"<=")
	checkNoJoin(t, append(ones, word("sum", 0)), api.ErrFull)
	checkNoJoin(t, repeated(symbol("<=", 0), 200), api.ErrFull)
	checkNoJoin(t, repeated(symbol("<=", 0), 134), api.ErrFull)
	checkJoin(t, repeated(symbol("<=", 0), 133), strings.Repeat("<= ", 132)+"<=")
}

// P3.2: a token that is not valid comes before a text that is too long, wherever it is.
func TestJoinNotValidBeforeFull(t *testing.T) {
	long := number(strings.Repeat("0", 401), 0)
	for _, token := range []api.Token{{}, symbol("!", 0), word("x", 0), number(tooGreat, 0), {Kind: 4, Text: "a"}} {
		checkNoJoin(t, []api.Token{long, token}, api.ErrBad)
		checkNoJoin(t, []api.Token{token, long}, api.ErrBad)
		checkNoJoin(t, append(repeated(word("select", 0), 199), token), api.ErrBad)
	}
}

// randomTokens returns so many valid tokens.
func randomTokens(r *rand.Rand, n int) []api.Token {
	all := allTokens()
	l := make([]api.Token, n)
	for i := range l {
		l[i] = all[r.Intn(len(all))]
		l[i].At = r.Intn(1000) - 500
	}
	return l
}

// sameButPlaces reports whether tokens are the same, with other places.
func sameButPlaces(l, other []api.Token) bool {
	return slices.EqualFunc(l, other, func(a, b api.Token) bool { return a.Kind == b.Kind && a.Text == b.Text })
}

// P3.3: tokens joined are read as these, with other places.
func TestJoinedIsRead(t *testing.T) {
	r := rand.New(rand.NewSource(4))
	joined := 0
	for i := range 3000 {
		l := randomTokens(r, i%130)
		s, e := lexer.Join(l)
		if long := len(strings.Join(texts(l), " ")) > 400; long != (e == api.ErrFull) {
			t.Fatalf("Join(%v) is %q, %v", l, s, e)
		}
		if e != api.OK {
			continue
		}
		joined++
		if again, n, e := lexer.All(s); e != api.OK || n != len(s) || !sameButPlaces(l, again) {
			t.Errorf("All(%q) is %v, %d, %v, want the tokens %v", s, again, n, e, l)
		}
	}
	if joined < 1000 {
		t.Errorf("only %d were joined", joined)
	}
}

// P3.3: blanks in front, behind and between any two tokens of a text do not matter, unless it has too many bytes then.
func TestBlanksDoNotMatter(t *testing.T) {
	for _, s := range []string{"", "a", "sum(v)<=12", "12a", "select count(*)\nfrom a where v>=-3", "<<=>>=!==", "((k+1)*-v)>>63"} {
		l, _, e := lexer.All(s)
		if e != api.OK {
			t.Fatalf("All(%q) is %v", s, e)
		}
		places := []int{0, len(s)}
		for _, token := range l {
			places = append(places, token.At)
		}
		for _, at := range places {
			for _, blanks := range []string{" ", "\n", " \n\n ", strings.Repeat(" ", 400-len(s))} {
				longer := s[:at] + blanks + s[at:]
				if again, n, e := lexer.All(longer); e != api.OK || n != len(longer) || !sameButPlaces(l, again) {
					t.Errorf("All(%q) is %v, %d, %v, want the tokens %v", longer, again, n, e, l)
				}
			}
			checkError(t, s[:at]+strings.Repeat("\n", 401-len(s))+s[at:], api.ErrMany, 0)
		}
	}
}

// P3.3: tokens and the blanks where they were are the text; they do not overlap, and only blanks are between them.
func TestTokensAreTheText(t *testing.T) {
	r := rand.New(rand.NewSource(5))
	for i := range 3000 {
		var given strings.Builder
		for _, token := range randomTokens(r, i%60) {
			given.WriteString(strings.Repeat(" ", r.Intn(2)) + strings.Repeat("\n", r.Intn(2)) + token.Text)
		}
		given.WriteString(strings.Repeat(" ", r.Intn(3)))
		s := given.String()
		l, n, e := lexer.All(s)
		if e != api.OK {
			continue
		}
		at := 0
		for _, token := range l {
			if token.At < at || strings.Trim(s[at:token.At], " \n") != "" || !strings.HasPrefix(s[token.At:], token.Text) {
				t.Fatalf("All(%q) has %v behind %d", s, token, at)
			}
			at = token.At + len(token.Text)
		}
		if n != len(s) || strings.Trim(s[at:], " \n") != "" {
			t.Errorf("All(%q) has tokens to %d, and the length %d", s, at, n)
		}
	}
}

// P3.3: each token of a text is valid, as Join tells.
func TestTokensAreValid(t *testing.T) {
	for _, s := range []string{"sum(v)<=12", "12a", "<<=>>=!==", "a1b2c3d4", "select count(*)\nfrom a where v>=-3", strings.Repeat("0", 400)} {
		l, _, _ := lexer.All(s)
		for _, token := range l {
			checkJoin(t, []api.Token{token}, token.Text)
		}
	}
}

// shared reports whether two texts begin at the same byte of the memory, or one in the other.
func shared(a, b string) bool {
	if a == "" || b == "" {
		return false
	}
	first, other := uintptr(unsafe.Pointer(unsafe.StringData(a))), uintptr(unsafe.Pointer(unsafe.StringData(b)))
	return first < other+uintptr(len(b)) && other < first+uintptr(len(a))
}

// P1 (R2): arguments are not changed, the memory behind the length of a slice among them, and results share no memory with them.
func TestArgumentsStay(t *testing.T) {
	s := strings.Clone("select sum(v)\nfrom a where k<=1234567890")
	l, _, _ := lexer.All(s)
	for _, token := range l {
		if shared(token.Text, s) {
			t.Errorf("the text %q is memory of the argument", token.Text)
		}
	}
	for n := range len(l) + 1 {
		given := slices.Clone(l)
		text, e := lexer.Join(given[:n])
		if e != api.OK || !slices.Equal(given, l) {
			t.Errorf("Join of %d tokens is %q, %v, and changed them to %v", n, text, e, given)
		}
		for _, token := range given {
			if shared(text, token.Text) {
				t.Errorf("Join of %d tokens has memory of the text %q", n, token.Text)
			}
		}
	}
}

// P1 (R2): a result that is changed, or appended to, changes none that is returned later.
func TestResultsAreNew(t *testing.T) {
	first, _, _ := lexer.All("a + b")
	first[0] = word("c", 7)
	_ = append(first[:1], word("d", 8), word("d", 9))
	checkTokens(t, "a + b", []api.Token{word("a", 0), symbol("+", 2), word("b", 4)})
}
