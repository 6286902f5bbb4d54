package ints_test

import (
	"math"
	"math/big"
	"strings"
	"testing"

	"tailwater/api"
	"tailwater/ints"
)

const (
	greatest = int64(math.MaxInt64)
	least    = int64(math.MinInt64)
)

// corners returns numbers at which wrapping, shifting and comparing may go wrong.
func corners() []int64 {
	l := []int64{least, least + 1, greatest - 1, greatest, -20, -10, -7, -5, -4, -3, -2, -1, 0, 1, 2, 3, 5, 9, 10, 11, 99, 100, 101}
	for _, n := range []uint{5, 6, 7, 16, 31, 32, 33, 62} {
		p := int64(1) << n
		l = append(l, p-1, p, p+1, -p-1, -p, -p+1)
	}
	return append(l, 3037000499, 3037000500, 6148914691236517205, -6148914691236517206)
}

// do returns what an operator gives, and fails the test if there is an error.
func do(t *testing.T, kind uint8, a, b int64) int64 {
	t.Helper()
	n, e := ints.Do(kind, a, b)
	if e != api.OK {
		t.Fatalf("Do(%d, %d, %d) is %v", kind, a, b, e)
	}
	return n
}

// P1.1: one table for each operator, with both ends of int64.
func TestDoGives(t *testing.T) {
	for _, x := range []struct {
		kind       uint8
		a, b, want int64
	}{
		{api.NoNeg, 7, 0, -7}, {api.NoNeg, -7, 3, 7}, {api.NoNeg, 0, 1, 0}, {api.NoNeg, greatest, 0, -greatest}, {api.NoNeg, least, 0, least},
		{api.NoNot, 0, 0, 1}, {api.NoNot, 0, 5, 1}, {api.NoNot, 1, 0, 0}, {api.NoNot, -1, 0, 0}, {api.NoNot, 2, 0, 0}, {api.NoNot, least, 0, 0},
		{api.NoMul, -4, 5, -20}, {api.NoMul, 0, least, 0}, {api.NoMul, greatest, 2, -2}, {api.NoMul, least, 2, 0}, {api.NoMul, least, -1, least}, {api.NoMul, greatest, greatest, 1}, {api.NoMul, 1 << 32, 1 << 31, least},
		{api.NoAdd, 2, 3, 5}, {api.NoAdd, greatest, 1, least}, {api.NoAdd, least, -1, greatest}, {api.NoAdd, least, least, 0}, {api.NoAdd, greatest, greatest, -2}, {api.NoAdd, greatest, least, -1},
		{api.NoSub, 2, 3, -1}, {api.NoSub, least, 1, greatest}, {api.NoSub, greatest, -1, least}, {api.NoSub, 0, least, least}, {api.NoSub, -1, least, greatest}, {api.NoSub, least, least, 0},
		{api.NoShl, 5, 2, 20}, {api.NoShl, 1, 62, 1 << 62}, {api.NoShl, 1, 63, least}, {api.NoShl, 1, 64, 1}, {api.NoShl, 1, 65, 2}, {api.NoShl, 3, 63, least}, {api.NoShl, 2, 63, 0}, {api.NoShl, -1, 63, least}, {api.NoShl, 1, -1, least}, {api.NoShl, 1, -63, 2}, {api.NoShl, 1, -64, 1}, {api.NoShl, 1, -65, least}, {api.NoShl, 7, least, 7}, {api.NoShl, 1, greatest, least}, {api.NoShl, 3, 1 << 32, 3},
		{api.NoShr, -20, 2, -5}, {api.NoShr, 20, 2, 5}, {api.NoShr, 5, 1, 2}, {api.NoShr, -5, 1, -3}, {api.NoShr, -5, -1, -1}, {api.NoShr, 5, -1, 0}, {api.NoShr, 9, 64, 9}, {api.NoShr, 9, 65, 4}, {api.NoShr, -9, -63, -5}, {api.NoShr, -9, -64, -9}, {api.NoShr, least, 63, -1}, {api.NoShr, greatest, 62, 1}, {api.NoShr, greatest, 63, 0}, {api.NoShr, -1, 63, -1}, {api.NoShr, -7, least, -7}, {api.NoShr, -7, greatest, -1}, {api.NoShr, 3, 1 << 32, 3},
		{api.NoLess, 1, 2, 1}, {api.NoLess, 2, 2, 0}, {api.NoLess, 3, 2, 0}, {api.NoLess, least, greatest, 1}, {api.NoLess, greatest, least, 0},
		{api.NoAtMost, 1, 2, 1}, {api.NoAtMost, 2, 2, 1}, {api.NoAtMost, 3, 2, 0}, {api.NoAtMost, least, greatest, 1}, {api.NoAtMost, greatest, least, 0},
		{api.NoMore, 1, 2, 0}, {api.NoMore, 2, 2, 0}, {api.NoMore, 3, 2, 1}, {api.NoMore, least, greatest, 0}, {api.NoMore, greatest, least, 1},
		{api.NoLeast, 1, 2, 0}, {api.NoLeast, 2, 2, 1}, {api.NoLeast, 3, 2, 1}, {api.NoLeast, least, greatest, 0}, {api.NoLeast, greatest, least, 1},
		{api.NoEqual, 1, 2, 0}, {api.NoEqual, 2, 2, 1}, {api.NoEqual, 3, 2, 0}, {api.NoEqual, least, least, 1}, {api.NoEqual, 0, 1 << 32, 0},
		{api.NoOther, 1, 2, 1}, {api.NoOther, 2, 2, 0}, {api.NoOther, 3, 2, 1}, {api.NoOther, least, least, 0}, {api.NoOther, 0, 1 << 32, 1},
		{api.NoAnd, 0, 0, 0}, {api.NoAnd, 5, 0, 0}, {api.NoAnd, 0, 5, 0}, {api.NoAnd, 5, -6, 1}, {api.NoAnd, 1, 2, 1}, {api.NoAnd, least, least, 1},
		{api.NoOr, 0, 0, 0}, {api.NoOr, 5, 0, 1}, {api.NoOr, 0, -5, 1}, {api.NoOr, 5, 6, 1}, {api.NoOr, 5, -5, 1}, {api.NoOr, least, 0, 1},
	} {
		if n, e := ints.Do(x.kind, x.a, x.b); e != api.OK || n != x.want {
			t.Errorf("Do(%d, %d, %d) is %d, %v, want %d", x.kind, x.a, x.b, n, e, x.want)
		}
	}
}

// wrap returns the number that differs from a whole number by a multiple of 2^64.
func wrap(x *big.Int) int64 {
	all := new(big.Int).Lsh(big.NewInt(1), 64)
	rest := new(big.Int).Mod(x, all)
	if rest.Cmp(big.NewInt(greatest)) > 0 {
		rest.Sub(rest, all)
	}
	return rest.Int64()
}

func one(is bool) *big.Int {
	if is {
		return big.NewInt(1)
	}
	return new(big.Int)
}

// whole returns what an operator gives in whole numbers, ahead of wrapping.
func whole(kind uint8, a, b *big.Int) *big.Int {
	power := new(big.Int).Exp(big.NewInt(2), new(big.Int).Mod(b, big.NewInt(64)), nil)
	out, order := new(big.Int), a.Cmp(b)
	switch kind {
	case api.NoNeg:
		return out.Neg(a)
	case api.NoNot:
		return one(a.Sign() == 0)
	case api.NoMul:
		return out.Mul(a, b)
	case api.NoAdd:
		return out.Add(a, b)
	case api.NoSub:
		return out.Sub(a, b)
	case api.NoShl:
		return out.Mul(a, power)
	case api.NoShr:
		return out.Div(a, power)
	case api.NoLess:
		return one(order < 0)
	case api.NoAtMost:
		return one(order <= 0)
	case api.NoMore:
		return one(order > 0)
	case api.NoLeast:
		return one(order >= 0)
	case api.NoEqual:
		return one(order == 0)
	case api.NoOther:
		return one(order != 0)
	case api.NoAnd:
		return one(a.Sign()*b.Sign() != 0)
	default:
		return one(a.Sign() != 0 || b.Sign() != 0)
	}
}

// P1.1: all operators agree with whole numbers, for all pairs of corners.
func TestDoWraps(t *testing.T) {
	for kind := api.NoNeg; kind <= api.NoOr; kind++ {
		for _, a := range corners() {
			for _, b := range corners() {
				want := wrap(whole(kind, big.NewInt(a), big.NewInt(b)))
				if n := do(t, kind, a, b); n != want {
					t.Errorf("Do(%d, %d, %d) is %d, want %d", kind, a, b, n, want)
				}
			}
		}
	}
}

// P1.1: a shift is by b modulo 64, for all distances around 64 and its multiples.
func TestDoShifts(t *testing.T) {
	for _, a := range []int64{1, -1, 5, -5, greatest, least} {
		for b := int64(-200); b <= 200; b++ {
			for _, kind := range []uint8{api.NoShl, api.NoShr} {
				want := wrap(whole(kind, big.NewInt(a), big.NewInt(b)))
				if n := do(t, kind, a, b); n != want {
					t.Errorf("Do(%d, %d, %d) is %d, want %d", kind, a, b, n, want)
				}
			}
		}
	}
}

// P1.1: all other kinds are ErrArg, and give 0.
func TestDoRejectsKinds(t *testing.T) {
	for k := 0; k <= math.MaxUint8; k++ {
		kind := uint8(k)
		n, e := ints.Do(kind, 3, 4)
		if kind >= api.NoNeg && kind <= api.NoOr {
			if e != api.OK {
				t.Errorf("Do of the operator %d is %v", kind, e)
			}
		} else if e != api.ErrArg || n != 0 {
			t.Errorf("Do of the kind %d is %d, %v", kind, n, e)
		}
	}
}

// P1.2: digits, as few as there have to be, and "-" in front.
func TestTextGives(t *testing.T) {
	for _, x := range []struct {
		n    int64
		want string
	}{
		{0, "0"}, {1, "1"}, {9, "9"}, {10, "10"}, {99, "99"}, {100, "100"}, {120, "120"}, {1000, "1000"}, {1234567890, "1234567890"},
		{-1, "-1"}, {-9, "-9"}, {-10, "-10"}, {-99, "-99"}, {-100, "-100"}, {-120, "-120"},
		{greatest, "9223372036854775807"}, {-greatest, "-9223372036854775807"}, {least, "-9223372036854775808"},
	} {
		if s := ints.Text(x.n); s != x.want {
			t.Errorf("Text(%d) is %q, want %q", x.n, s, x.want)
		}
	}
	for _, n := range corners() {
		if s, want := ints.Text(n), big.NewInt(n).String(); s != want {
			t.Errorf("Text is %q, want %q", s, want)
		}
	}
}

// P1.3: the number that digits are, up to the greatest one.
func TestReadGives(t *testing.T) {
	for _, x := range []struct {
		s    string
		want int64
	}{
		{"0", 0}, {"7", 7}, {"9", 9}, {"10", 10}, {"120", 120}, {"1234567890", 1234567890},
		{"00", 0}, {"007", 7}, {"010", 10}, {"08", 8}, {strings.Repeat("0", 5000), 0}, {strings.Repeat("0", 5000) + "42", 42},
		{"999999999999999999", 999999999999999999}, {"1000000000000000000", 1000000000000000000},
		{"9223372036854775799", greatest - 8}, {"9223372036854775806", greatest - 1}, {"9223372036854775807", greatest},
		{"0009223372036854775807", greatest}, {strings.Repeat("0", 5000) + "9223372036854775807", greatest},
	} {
		if n, e := ints.Read(x.s); e != api.OK || n != x.want {
			t.Errorf("Read(%q) is %d, %v, want %d", x.s, n, e, x.want)
		}
	}
}

// P1.3: digits of a number that is too great, among them some that wrap to small ones.
func TestReadRejectsGreatNumbers(t *testing.T) {
	for _, s := range []string{
		"9223372036854775808", "9223372036854775809", "9223372036854775810", "9223372036854775817", "9300000000000000000", "9999999999999999999",
		"10000000000000000000", "18446744073709551615", "18446744073709551616", "18446744073709551621", "92233720368547758070", "100000000000000000000",
		"0009223372036854775808", strings.Repeat("0", 5000) + "9223372036854775808", "340282366920938463463374607431768211456", strings.Repeat("9", 5000), "1" + strings.Repeat("0", 5000),
	} {
		if n, e := ints.Read(s); e != api.ErrRange || n != 0 {
			t.Errorf("Read(%q) is %d, %v", s, n, e)
		}
	}
}

// P1.3, R1 and R4: what is not digits is ErrForm, also where the number would be too great.
func TestReadRejectsOtherTexts(t *testing.T) {
	for _, s := range []string{
		"", " ", "a", "-", "+", "-1", "+1", "-0", "-9223372036854775808", " 1", "1 ", "1 2", "1\n", "1\x00", "12a", "a12", "1a2", "0x10", "0b1", "0o7", "1_000", "1,000", "1.", "1.0", "1e3", "\xff", "１", "٣", "²",
		"9223372036854775808a", "99999999999999999999-", "-99999999999999999999", strings.Repeat("9", 5000) + " ", "x" + strings.Repeat("9", 5000),
	} {
		if n, e := ints.Read(s); e != api.ErrForm || n != 0 {
			t.Errorf("Read(%q) is %d, %v", s, n, e)
		}
	}
	for c := 0; c <= math.MaxUint8; c++ {
		if c >= '0' && c <= '9' {
			continue
		}
		b := string([]byte{byte(c)})
		for _, s := range []string{b, b + "1", "1" + b, "1" + b + "1"} {
			if n, e := ints.Read(s); e != api.ErrForm || n != 0 {
				t.Errorf("Read(%q) is %d, %v", s, n, e)
			}
		}
	}
}

// P1.4: sums, products and differences are those of a ring.
func TestRing(t *testing.T) {
	add := func(a, b int64) int64 { return do(t, api.NoAdd, a, b) }
	mul := func(a, b int64) int64 { return do(t, api.NoMul, a, b) }
	for _, a := range corners() {
		for _, b := range corners() {
			if add(a, b) != add(b, a) || mul(a, b) != mul(b, a) {
				t.Errorf("the order of %d and %d matters", a, b)
			}
			if do(t, api.NoSub, a, b) != add(a, do(t, api.NoNeg, b, 0)) {
				t.Errorf("%d - %d is no sum with the negative", a, b)
			}
			for _, c := range corners() {
				if add(add(a, b), c) != add(a, add(b, c)) || mul(mul(a, b), c) != mul(a, mul(b, c)) {
					t.Errorf("it matters which two of %d, %d and %d are taken first", a, b, c)
				}
				if mul(a, add(b, c)) != add(mul(a, b), mul(a, c)) {
					t.Errorf("%d * (%d + %d) is no sum of products", a, b, c)
				}
			}
		}
	}
}

// P1.4: shifted there and back; and by 64 more.
func TestShiftsBack(t *testing.T) {
	for _, a := range corners() {
		for b := int64(0); b < 64; b++ {
			left := do(t, api.NoShl, a, b)
			exact := new(big.Int).Lsh(big.NewInt(a), uint(b))
			if exact.IsInt64() && do(t, api.NoShr, left, b) != a {
				t.Errorf("%d, shifted by %d and back, is another number", a, b)
			}
		}
		for _, b := range corners() {
			more := do(t, api.NoAdd, b, 64)
			for _, kind := range []uint8{api.NoShl, api.NoShr} {
				if do(t, kind, a, b) != do(t, kind, a, more) {
					t.Errorf("the operator %d of %d differs by %d and %d", kind, a, b, more)
				}
			}
		}
	}
}

// P1.4: comparisons are those of an order.
func TestOrder(t *testing.T) {
	is := func(kind uint8, a, b int64) bool { return do(t, kind, a, b) == 1 }
	for _, a := range corners() {
		for _, b := range corners() {
			less, equal, more := is(api.NoLess, a, b), is(api.NoEqual, a, b), is(api.NoMore, a, b)
			if do(t, api.NoLess, a, b)+do(t, api.NoEqual, a, b)+do(t, api.NoMore, a, b) != 1 {
				t.Errorf("%d and %d have not just one order", a, b)
			}
			if less != is(api.NoMore, b, a) || equal != is(api.NoEqual, b, a) || equal != (a == b) {
				t.Errorf("%d and %d have another order the other way about", a, b)
			}
			if is(api.NoAtMost, a, b) == more || is(api.NoLeast, a, b) == less || is(api.NoOther, a, b) == equal {
				t.Errorf("the comparisons of %d and %d contradict each other", a, b)
			}
			for _, c := range corners() {
				if less && is(api.NoLess, b, c) && !is(api.NoLess, a, c) {
					t.Errorf("%d, %d and %d are in no order", a, b, c)
				}
			}
		}
	}
}

// P1.4: truth values are 0 and 1, and follow the rules of logic.
func TestTruth(t *testing.T) {
	for _, a := range corners() {
		for _, b := range corners() {
			for _, kind := range []uint8{api.NoNot, api.NoLess, api.NoAtMost, api.NoMore, api.NoLeast, api.NoEqual, api.NoOther, api.NoAnd, api.NoOr} {
				if n := do(t, kind, a, b); n != 0 && n != 1 {
					t.Errorf("Do(%d, %d, %d) is %d", kind, a, b, n)
				}
			}
			neither := do(t, api.NoAnd, do(t, api.NoNot, a, 0), do(t, api.NoNot, b, 0))
			if do(t, api.NoNot, do(t, api.NoOr, a, b), 0) != neither {
				t.Errorf("not (%d or %d) is another value than neither", a, b)
			}
		}
	}
}

// P1.4: what was written is read, and different numbers have different texts.
func TestWrittenAndRead(t *testing.T) {
	texts := map[string]int64{}
	check := func(n int64) {
		s := ints.Text(n)
		if m, ok := texts[s]; ok && m != n {
			t.Errorf("%d and %d have the text %q", m, n, s)
		}
		texts[s] = n
		m, e := ints.Read(s)
		if n >= 0 && (e != api.OK || m != n) {
			t.Errorf("the text of %d is read as %d, %v", n, m, e)
		}
		if n < 0 && (e != api.ErrForm || m != 0) {
			t.Errorf("the text of %d is read as %d, %v", n, m, e)
		}
	}
	for n := int64(-2000); n <= 2000; n++ {
		check(n)
	}
	for _, n := range corners() {
		check(n)
	}
}
