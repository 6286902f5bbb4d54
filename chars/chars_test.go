package chars_test

import (
	"math"
	"strings"
	"testing"

	"tailwater/api"
	"tailwater/chars"
)

// symbolList returns the symbols as the chapter names them.
func symbolList() []string {
	return strings.Fields("( ) * + - < <= << > >= >> = !=")
}

// wordList returns the words as the chapter names them.
func wordList() []string {
	return strings.Fields("select count sum min max from union join where window tumble slide every session by key late drop side and or not a b c d k t v")
}

// wordSet returns the words, to look them up.
func wordSet() map[string]bool {
	set := map[string]bool{}
	for _, word := range wordList() {
		set[word] = true
	}
	return set
}

// oneByteTexts returns a text of one byte for each byte there is.
func oneByteTexts() []string {
	l := make([]string, 256)
	for c := range l {
		l[c] = string([]byte{byte(c)})
	}
	return l
}

// checkSymbol fails the test unless the symbol at an index has so many bytes.
func checkSymbol(t *testing.T, s string, at, want int) {
	t.Helper()
	if n, e := chars.Symbol(s, at); e != api.OK || n != want {
		t.Errorf("Symbol(%q, %d) is %d, %v, want %d", s, at, n, e, want)
	}
}

// longest returns how many bytes the longest symbol in front of a text has, told by the list.
func longest(s string) int {
	n := 0
	for _, symbol := range symbolList() {
		if strings.HasPrefix(s, symbol) && len(symbol) > n {
			n = len(symbol)
		}
	}
	return n
}

// P2.1: the kind of each of the 256 bytes.
func TestKindGives(t *testing.T) {
	want := [256]uint8{' ': api.ChBlank, '\n': api.ChBlank}
	for _, c := range []byte("0123456789") {
		want[c] = api.ChDigit
	}
	for _, c := range []byte("abcdefghijklmnopqrstuvwxyz") {
		want[c] = api.ChLetter
	}
	for _, c := range []byte("()*+-<=>!") {
		want[c] = api.ChSymbol
	}
	for c := range want {
		if kind := chars.Kind(byte(c)); kind != want[c] {
			t.Errorf("Kind(%q) is %d, want %d", rune(c), kind, want[c])
		}
	}
}

// P2.1: the kinds are the numbers that the chapter names, and the bytes beside those of a kind are none.
func TestKindNumbers(t *testing.T) {
	for _, x := range []struct {
		c    byte
		want uint8
	}{
		{32, 1}, {10, 1}, {'0', 2}, {'9', 2}, {'a', 3}, {'z', 3}, {'(', 4}, {')', 4}, {'*', 4}, {'+', 4}, {'-', 4}, {'<', 4}, {'=', 4}, {'>', 4}, {'!', 4},
		{0, 0}, {9, 0}, {11, 0}, {12, 0}, {13, 0}, {31, 0}, {'/', 0}, {':', 0}, {'`', 0}, {'{', 0}, {'A', 0}, {'M', 0}, {'Z', 0}, {'\'', 0}, {',', 0}, {'.', 0}, {';', 0}, {'?', 0}, {'"', 0}, {'#', 0}, {'_', 0}, {'&', 0}, {'|', 0}, {'~', 0}, {127, 0}, {128, 0}, {0x85, 0}, {0xa0, 0}, {0xe9, 0}, {255, 0},
	} {
		if kind := chars.Kind(x.c); kind != x.want {
			t.Errorf("Kind(%d) is %d, want %d", x.c, kind, x.want)
		}
	}
}

// P2.2: each symbol, alone, with something in front of it and with something behind it.
func TestSymbolGives(t *testing.T) {
	for _, symbol := range symbolList() {
		checkSymbol(t, symbol, 0, len(symbol))
		checkSymbol(t, symbol, len(symbol), 0)
		for _, behind := range []string{" ", "\n", "a", "7", "(", ")", "*", "+", "-", "!", "A", "\x00", "\xff"} {
			checkSymbol(t, symbol+behind, 0, len(symbol))
		}
		for _, front := range []string{" ", "a", "sum(v", "<", "<<", "!", "!=", "=", "\xff", strings.Repeat("<", 1000)} {
			checkSymbol(t, front+symbol, len(front), len(symbol))
		}
	}
}

// P2.2: the longest symbol is taken, "!" is none without "=" behind it, and only what is from the index on matters.
func TestSymbolIsTheLongest(t *testing.T) {
	for _, x := range []struct {
		s        string
		at, want int
	}{
		{"a<=b", 0, 0}, {"a<=b", 1, 2}, {"a<=b", 2, 1}, {"a<=b", 3, 0}, {"a<=b", 4, 0},
		{"<<=", 0, 2}, {"<<=", 1, 2}, {"<<=", 2, 1}, {"<<<", 0, 2}, {"<<<", 1, 2}, {"<<<", 2, 1}, {"<<<", 3, 0},
		{">>=", 0, 2}, {">>=", 1, 2}, {">>>", 0, 2}, {">>>", 2, 1}, {">=>", 0, 2}, {">=>", 2, 1},
		{"=<", 0, 1}, {"=<", 1, 1}, {"=>", 0, 1}, {"==", 0, 1}, {"=!", 0, 1}, {"<>", 0, 1}, {"><", 0, 1}, {"<!", 0, 1}, {"<!=", 0, 1}, {"<!=", 1, 2},
		{"< =", 0, 1}, {"< <", 0, 1}, {"> >", 0, 1}, {"<\x00=", 0, 1}, {"<-", 0, 1}, {"--", 0, 1}, {"++", 0, 1}, {"**", 0, 1}, {"((", 0, 1}, {"))", 0, 1}, {"()", 0, 1},
		{"!", 0, 0}, {"!a", 0, 0}, {"!!", 0, 0}, {"! =", 0, 0}, {"!<", 0, 0}, {"!>", 0, 0}, {"!=", 0, 2}, {"!=", 1, 1}, {"!==", 0, 2}, {"!!=", 0, 0}, {"!!=", 1, 2}, {"a!", 1, 0}, {"a!=", 1, 2},
		{"", 0, 0}, {"x", 0, 0}, {"x", 1, 0}, {" <", 0, 0}, {" <", 1, 1}, {"1+", 0, 0}, {"1+", 1, 1}, {"count(*)", 5, 1}, {"count(*)", 6, 1}, {"count(*)", 7, 1}, {"count(*)", 8, 0},
		{",", 0, 0}, {"/", 0, 0}, {"%", 0, 0}, {"&&", 0, 0}, {"\xe2\x89\xa4", 0, 0}, {"\x00", 0, 0}, {"\xff", 0, 0},
	} {
		checkSymbol(t, x.s, x.at, x.want)
	}
}

// P2.2: an index that is not in the text is ErrArg, and gives 0.
func TestSymbolRejectsIndices(t *testing.T) {
	for _, s := range []string{"", "<", "<<", "a<=b", "!=", "\xff", strings.Repeat("<", 1000)} {
		for _, at := range []int{-1, -2, -len(s) - 1, -len(s), math.MinInt, math.MinInt32, len(s) + 1, len(s) + 2, math.MaxInt32, math.MaxInt} {
			if at == 0 {
				continue
			}
			if n, e := chars.Symbol(s, at); e != api.ErrArg || n != 0 {
				t.Errorf("Symbol(%q, %d) is %d, %v", s, at, n, e)
			}
		}
		checkSymbol(t, s, len(s), 0)
	}
}

// P2.3: each word is one, and no text that is a little like one is, unless it is one itself.
func TestWordTells(t *testing.T) {
	set := wordSet()
	check := func(s string) {
		if is := chars.Word(s); is != set[s] {
			t.Errorf("Word(%q) is %v", s, is)
		}
	}
	for _, word := range wordList() {
		if !chars.Word(word) {
			t.Errorf("Word(%q) is false", word)
		}
		check(word + word)
		check(strings.ToUpper(word))
		check(strings.ToUpper(word[:1]) + word[1:])
		for at := 0; at <= len(word); at++ {
			check(word[:at])
			check(word[at:])
			for _, c := range oneByteTexts() {
				check(word[:at] + c + word[at:])
				if at < len(word) {
					check(word[:at] + c + word[at+1:])
					check(word[:at] + word[at+1:])
				}
			}
		}
	}
}

// P2.3: of all texts of three bytes or fewer, letters or not, only the words are words.
func TestWordTellsShortTexts(t *testing.T) {
	if chars.Word("") {
		t.Error("the empty text is a word")
	}
	set, found := wordSet(), 0
	look := func(s string) {
		if is := chars.Word(s); is != set[s] {
			t.Errorf("Word(%q) is %v", s, is)
		} else if is {
			found++
		}
	}
	for _, a := range oneByteTexts() {
		look(a)
		for _, b := range oneByteTexts() {
			look(a + b)
		}
	}
	letters := strings.Split("abcdefghijklmnopqrstuvwxyz", "")
	for _, a := range letters {
		for _, b := range letters {
			for _, c := range letters {
				look(a + b + c)
			}
		}
	}
	if found != 15 {
		t.Errorf("%d words of three letters or fewer, want 15", found)
	}
}

// P2.3: texts that are no words, though they look as if they might be.
func TestWordRejectsTexts(t *testing.T) {
	for _, s := range []string{
		"windows", "windo", "indow", "sessions", "sums", "su", "selec", "e", "f", "s", "z", "keys", "ke", "values", "key value", "by key", "select ", " select", "select\n", "a b", "ab", "abcd", "aa", "kt",
		"Select", "SELECT", "A", "K", "1", "12", "a1", "1a", "*", "(", "<=", "avg", "group", "stream", "true", "false", "\x00", "a\x00", "\xff", "selеct", strings.Repeat("a", 5000), strings.Join(wordList(), ""), strings.Join(wordList(), " "),
	} {
		if chars.Word(s) {
			t.Errorf("%q is a word", s)
		}
	}
}

// P2.4: how many bytes there are of each kind.
func TestKindCounts(t *testing.T) {
	counts := map[uint8]int{}
	for c := range 256 {
		counts[chars.Kind(byte(c))]++
	}
	for kind, want := range map[uint8]int{api.ChBlank: 2, api.ChDigit: 10, api.ChLetter: 26, api.ChSymbol: 9, api.ChNone: 209} {
		if counts[kind] != want {
			t.Errorf("%d bytes of the kind %d, want %d", counts[kind], kind, want)
		}
	}
	if len(counts) != 5 {
		t.Errorf("there are %d kinds", len(counts))
	}
}

// P2.4: a symbol of two bytes is one whatever is behind it; one of one byte is one, unless it makes one of two.
func TestSymbolWithBytesBehind(t *testing.T) {
	for _, symbol := range symbolList() {
		for _, c := range oneByteTexts() {
			s, want := symbol+c, len(symbol)
			if len(symbol) == 1 && strings.Contains(" <= << >= >> ", " "+s+" ") {
				want = 2
			}
			checkSymbol(t, s, 0, want)
			for _, more := range []string{"<", ">", "=", "!", "a", "\x00"} {
				checkSymbol(t, s+more, 0, want)
				checkSymbol(t, more+s+more, 1, want)
			}
		}
	}
}

// P2.4: two bytes tell the symbol, for all pairs of bytes; with one byte in front, or with more behind, it is the same.
func TestSymbolOfTwoBytes(t *testing.T) {
	for _, a := range oneByteTexts() {
		checkSymbol(t, a, 0, longest(a))
		for _, b := range oneByteTexts() {
			want := longest(a + b)
			checkSymbol(t, a+b, 0, want)
			checkSymbol(t, "<"+a+b, 1, want)
			checkSymbol(t, a+b+"=", 0, want)
			checkSymbol(t, a+b+">", 0, want)
		}
	}
}

// P2.4: symbols are ChSymbol alone, and words letters alone.
func TestKindsOfSymbolsAndWords(t *testing.T) {
	check := func(s string, kind uint8) {
		for i := range len(s) {
			if chars.Kind(s[i]) != kind {
				t.Errorf("byte %d of %q is not of the kind %d", i, s, kind)
			}
		}
	}
	for _, symbol := range symbolList() {
		check(symbol, api.ChSymbol)
		if chars.Word(symbol) {
			t.Errorf("%q is a word", symbol)
		}
	}
	for _, word := range wordList() {
		check(word, api.ChLetter)
		for at := 0; at <= len(word); at++ {
			checkSymbol(t, word, at, 0)
		}
	}
	for _, a := range oneByteTexts() {
		for _, b := range oneByteTexts() {
			n, e := chars.Symbol(a+b, 0)
			if e != api.OK {
				t.Errorf("Symbol(%q, 0) is %v", a+b, e)
			}
			check((a + b)[:n], api.ChSymbol)
		}
	}
}
