package tests

import (
	"math"
	"math/big"
	"strings"
	"testing"

	"loop.example/g00500/impl"
)

const mostText = "170141183460469231731687303715884105727"

// textWides are valid numbers of both signs: the edges, powers of ten with their neighbours, and numbers with zeros inside their text or their binary form.
func textWides(t *testing.T) []impl.Wide {
	list := edgeWides()
	for zeros := 0; zeros <= 38; zeros++ {
		power := "1" + strings.Repeat("0", zeros)
		exact := exactText(t, power)
		for step := int64(-1); step <= 1; step++ {
			list = append(list, bothSigns(t, new(big.Int).Add(exact, big.NewInt(step)))...)
		}
	}
	for _, s := range []string{
		"1000000001", "4294967296", "40000000000000000005", "10203040506070809010203040506070809", "99999999999999999999000000000000000000",
		// The tenths of these are 2^32, 2^64 and 2^96: a single one of the four digits is not 0.
		"42949672960", "184467440737095516169", "792281625142643375935439503360",
	} {
		list = append(list, bothSigns(t, exactText(t, s))...)
	}
	return list
}

// exactText returns the number of the decimal digits s.
func exactText(t *testing.T, s string) *big.Int {
	t.Helper()
	n, ok := new(big.Int).SetString(s, 10)
	if !ok {
		t.Fatalf("%q is not a number", s)
	}
	return n
}

// bothSigns returns n and -n.
func bothSigns(t *testing.T, n *big.Int) []impl.Wide {
	t.Helper()
	w, ok := wideOfExact(n)
	negated, negatedOk := wideOfExact(new(big.Int).Neg(n))
	if !ok || !negatedOk {
		t.Fatalf("%v is too large", n)
	}
	return []impl.Wide{w, negated}
}

// notWideTexts are strings that WideText writes for no number.
func notWideTexts() []string {
	list := []string{
		"", "-", "--", "--1", "-0", "+0", "+1", "+", "00", "-00", "01", "-01", "007", "0-1", "1-", "1-1", " ", " 1", "1 ", "- 1", "1 2", "\n1", "1\n", "\t1",
		"a", "1a", "a1", "0x1", "0b1", "0o7", "1e3", "1.0", "1,000", "1_000", "1/2", ":", "1:", "/", "1/", "\x00", "1\x00", "\xff", "1\xff", "−1",
		"\u0661", "1\u0662", "\uff11", "\u00b2", "\u0967", "NaN", "inf", "-inf",
		"170141183460469231731687303715884105728", "170141183460469231731687303715884105729", "170141183460469231731687303715884105730",
		"170141183460469231731687303715884105737", "170141183460469231731687303715884106727", "180141183460469231731687303715884105727",
		"200000000000000000000000000000000000000", "999999999999999999999999999999999999999", "1000000000000000000000000000000000000000",
		// 2^128 - 1, 2^128, 2^128 + 1, 2^192 and 2^256 + 7 would be valid if what goes beyond 128 bits were dropped.
		"340282366920938463463374607431768211455", "340282366920938463463374607431768211456", "340282366920938463463374607431768211457",
		"6277101735386680763835789423207666416102355444464034512896",
		"115792089237316195423570985008687907853269984665640564039457584007913129639943",
		mostText + "0", mostText + "7", "0" + mostText, "1" + mostText, " " + mostText, mostText + " ", "+" + mostText, mostText + "x", mostText + "-",
		strings.Repeat("9", 40), strings.Repeat("1", 100), strings.Repeat("9", 5000), strings.Repeat("0", 5000), strings.Repeat("0", 5000) + "1", strings.Repeat("-", 5000),
	}
	for _, s := range list {
		if !strings.HasPrefix(s, "-") {
			list = append(list, "-"+s)
		}
	}
	return list
}

func TestWideTexts(t *testing.T) {
	for _, w := range textWides(t) {
		if s, want := impl.WideText(w), exactWide(w).String(); s != want {
			t.Errorf("WideText(%v) = %q, want %q", w, s, want)
		}
	}
	for _, c := range []struct {
		w impl.Wide
		s string
	}{
		{zero, "0"}, {impl.WideOf(1), "1"}, {impl.WideOf(-1), "-1"}, {impl.WideOf(9), "9"}, {impl.WideOf(10), "10"}, {impl.WideOf(-10), "-10"},
		{impl.WideOf(-700000), "-700000"}, {impl.WideOf(1002003), "1002003"}, {mostWide, mostText}, {leastWide, "-" + mostText},
		{impl.WideOf(1<<32 - 1), "4294967295"}, {impl.WideOf(1 << 32), "4294967296"}, {impl.WideOf(math.MinInt), "-9223372036854775808"},
		{impl.Wide{Low: mostUint}, "18446744073709551615"}, {impl.Wide{Neg: true, Low: mostUint}, "-18446744073709551615"},
		{impl.Wide{High: 1}, "18446744073709551616"}, {impl.Wide{Neg: true, High: 1}, "-18446744073709551616"},
		{impl.Wide{High: 1 << 32}, "79228162514264337593543950336"}, {impl.Wide{Neg: true, High: 1<<32 - 1, Low: mostUint}, "-79228162514264337593543950335"},
		{impl.Wide{High: 5, Low: 7766279631452241920}, "100000000000000000000"},
	} {
		if s := impl.WideText(c.w); s != c.s {
			t.Errorf("WideText(%v) = %q, want %q", c.w, s, c.s)
		}
	}
	for _, w := range invalidWides() {
		if s := impl.WideText(w); s != "" {
			t.Errorf("WideText(%v) = %q, want it empty", w, s)
		}
	}
}

func TestWideTextsAreRead(t *testing.T) {
	for _, w := range textWides(t) {
		if back, ok := impl.ReadWide(impl.WideText(w)); back != w || !ok {
			t.Errorf("ReadWide(%q) = %v, %v, want %v", impl.WideText(w), back, ok, w)
		}
		// An independent text shows that the two functions are not wrong together.
		s := exactWide(w).String()
		if back, ok := impl.ReadWide(s); back != w || !ok {
			t.Errorf("ReadWide(%q) = %v, %v, want %v", s, back, ok, w)
		}
	}
}

func TestOtherTextsAreNotRead(t *testing.T) {
	for _, s := range notWideTexts() {
		if w, ok := impl.ReadWide(s); w != zero || ok {
			t.Errorf("ReadWide(%q) = %v, %v, want the zero Wide, false", s, w, ok)
		}
	}
	// No byte but a digit, and a '-' before it, is read on either side of a digit.
	for b := range 256 {
		before, after := string([]byte{byte(b), '5'}), string([]byte{'5', byte(b)})
		isDigit := b >= '0' && b <= '9'
		if _, ok := impl.ReadWide(before); ok != (isDigit && b != '0' || b == '-') {
			t.Errorf("ReadWide(%q) returns %v", before, ok)
		}
		if _, ok := impl.ReadWide(after); ok != isDigit {
			t.Errorf("ReadWide(%q) returns %v", after, ok)
		}
	}
}

func TestReadWideAtTheEnd(t *testing.T) {
	// All digits up to the last one are the same, so only that one decides.
	for d := '0'; d <= '9'; d++ {
		s := mostText[:len(mostText)-1] + string(d)
		for _, s := range []string{s, "-" + s} {
			want, wantOk := wideOfExact(exactText(t, s))
			if w, ok := impl.ReadWide(s); w != want || ok != wantOk || ok != (d <= '7') {
				t.Errorf("ReadWide(%q) = %v, %v, want %v, %v", s, w, ok, want, wantOk)
			}
		}
	}
}

// checkTenTimes compares TenTimes of a valid number and a digit with math/big.
func checkTenTimes(t *testing.T, w impl.Wide, d int) {
	t.Helper()
	digit := int64(d)
	if w.Neg {
		digit = -digit
	}
	exact := new(big.Int).Mul(exactWide(w), big.NewInt(10))
	result, ok := impl.TenTimes(w, d)
	checkWide(t, "TenTimes", w, d, exact.Add(exact, big.NewInt(digit)), result, ok)
}

func TestTenTimesIsExact(t *testing.T) {
	for _, w := range textWides(t) {
		for d := range 10 {
			checkTenTimes(t, w, d)
		}
	}
	for _, c := range []struct {
		w      impl.Wide
		d      int
		result impl.Wide
	}{
		{zero, 0, zero}, {zero, 9, impl.WideOf(9)}, {impl.WideOf(1), 0, impl.WideOf(10)}, {impl.WideOf(-1), 0, impl.WideOf(-10)},
		{impl.WideOf(4), 2, impl.WideOf(42)}, {impl.WideOf(-4), 2, impl.WideOf(-42)}, {impl.WideOf(-1), 9, impl.WideOf(-19)},
		{impl.Wide{Low: 1844674407370955161}, 5, impl.Wide{Low: mostUint}}, {impl.Wide{Low: 1844674407370955161}, 6, impl.Wide{High: 1}},
		{impl.Wide{Neg: true, Low: 1844674407370955161}, 6, impl.Wide{Neg: true, High: 1}},
	} {
		if w, ok := impl.TenTimes(c.w, c.d); w != c.result || !ok {
			t.Errorf("TenTimes(%v, %d) = %v, %v, want %v", c.w, c.d, w, ok, c.result)
		}
	}
}

// TestTenTimesAtTheEnds appends each digit to the tenth of the largest number and to its neighbours.
func TestTenTimesAtTheEnds(t *testing.T) {
	tenth := exactText(t, mostText[:len(mostText)-1])
	for step := int64(-2); step <= 2; step++ {
		for _, w := range bothSigns(t, new(big.Int).Add(tenth, big.NewInt(step))) {
			for d := range 10 {
				checkTenTimes(t, w, d)
				if _, ok := impl.TenTimes(w, d); ok != (step < 0 || step == 0 && d <= 7) {
					t.Errorf("TenTimes(%v, %d) returns %v", w, d, ok)
				}
			}
		}
	}
	for d := range 10 {
		for _, w := range []impl.Wide{mostWide, leastWide} {
			if result, ok := impl.TenTimes(w, d); result != zero || ok {
				t.Errorf("TenTimes(%v, %d) = %v, %v, want the zero Wide, false", w, d, result, ok)
			}
		}
	}
}

func TestTenTimesOfInvalidArguments(t *testing.T) {
	for _, d := range []int{-1, -2, -9, -10, 10, 11, 48, 57, 256, 1 << 32, -1 << 32, math.MaxInt, math.MinInt, math.MinInt + 1} {
		for _, w := range append(edgeWides(), invalidWides()...) {
			if result, ok := impl.TenTimes(w, d); result != zero || ok {
				t.Errorf("TenTimes(%v, %d) = %v, %v, want the zero Wide, false", w, d, result, ok)
			}
		}
	}
	for _, w := range invalidWides() {
		for d := range 10 {
			if result, ok := impl.TenTimes(w, d); result != zero || ok {
				t.Errorf("TenTimes(%v, %d) = %v, %v, want the zero Wide, false", w, d, result, ok)
			}
		}
	}
}

func TestSubWideIsExact(t *testing.T) {
	for _, a := range edgeWides() {
		for _, b := range edgeWides() {
			w, ok := impl.SubWide(a, b)
			checkWide(t, "SubWide", a, b, new(big.Int).Sub(exactWide(a), exactWide(b)), w, ok)
		}
		if w, ok := impl.SubWide(a, a); w != zero || !ok {
			t.Errorf("SubWide(%v, the same) = %v, %v", a, w, ok)
		}
	}
}

// TestSubWideAtTheEnds uses the cases of addition, but the third number is the difference.
func TestSubWideAtTheEnds(t *testing.T) {
	one, minusOne := impl.WideOf(1), impl.WideOf(-1)
	for _, c := range []wideSum{
		{zero, zero, zero, true},
		{zero, one, minusOne, true},
		{zero, minusOne, one, true},
		{impl.WideOf(3), impl.WideOf(5), impl.WideOf(-2), true},
		{impl.WideOf(-3), impl.WideOf(-5), impl.WideOf(2), true},
		{impl.WideOf(3), impl.WideOf(-5), impl.WideOf(8), true},
		{impl.WideOf(-3), impl.WideOf(5), impl.WideOf(-8), true},
		{impl.Wide{High: 1}, one, impl.Wide{Low: mostUint}, true},
		{one, impl.Wide{High: 1}, impl.Wide{Neg: true, Low: mostUint}, true},
		{impl.Wide{Neg: true, Low: mostUint}, one, impl.Wide{Neg: true, High: 1}, true},
		{mostWide, mostWide, zero, true},
		{leastWide, leastWide, zero, true},
		{zero, mostWide, leastWide, true},
		{zero, leastWide, mostWide, true},
		{minusOne, leastWide, impl.Wide{High: math.MaxInt64, Low: mostUint - 1}, true},
		{mostWide, one, impl.Wide{High: math.MaxInt64, Low: mostUint - 1}, true},
		{mostWide, zero, mostWide, true},
		{leastWide, zero, leastWide, true},
		{mostWide, minusOne, zero, false},
		{leastWide, one, zero, false},
		{one, leastWide, zero, false},
		{minusOne, mostWide, zero, false},
		{mostWide, leastWide, zero, false},
		{leastWide, mostWide, zero, false},
		{impl.Wide{High: 1 << 62}, impl.Wide{Neg: true, High: 1 << 62}, zero, false},
		{impl.Wide{Neg: true, High: 1 << 62}, impl.Wide{High: 1<<62 - 1, Low: mostUint}, leastWide, true},
	} {
		if w, ok := impl.SubWide(c.a, c.b); w != c.sum || ok != c.ok {
			t.Errorf("SubWide(%v, %v) = %v, %v, want %v, %v", c.a, c.b, w, ok, c.sum, c.ok)
		}
	}
}

func TestSubWideOfInvalidNumbers(t *testing.T) {
	for _, bad := range invalidWides() {
		// The difference from some of these would be valid.
		for _, other := range append(edgeWides(), invalidWides()...) {
			if w, ok := impl.SubWide(bad, other); w != zero || ok {
				t.Errorf("SubWide(%v, %v) = %v, %v, want the zero Wide, false", bad, other, w, ok)
			}
			if w, ok := impl.SubWide(other, bad); w != zero || ok {
				t.Errorf("SubWide(%v, %v) = %v, %v, want the zero Wide, false", other, bad, w, ok)
			}
		}
	}
}
