package tests

import (
	"math"
	"math/big"
	"regexp"
	"strings"
	"testing"

	"loop.example/g00500/impl"
)

// fixForm is the form that ReadFix accepts, whatever the value.
var fixForm = regexp.MustCompile(`\A-?(0|[1-9][0-9]*)(\.[0-9]{1,3})?\z`)

// decimals are those around zero, with each number of digits before and after the point, and at both ends.
func decimals() []int {
	list := []int{}
	for n := 0; n <= 12000; n++ {
		list = append(list, n, -n)
	}
	for p := 10; p <= 1000000000; p *= 10 {
		for rest := -1001; rest <= 1001; rest++ {
			list = append(list, p+rest, -p-rest, 2*p+rest, -2*p-rest)
		}
	}
	for k := range 31 {
		p := 1 << k
		list = append(list, p-1, p, p+1, -p-1, -p, 1-p)
	}
	for below := 0; below <= 12000; below++ {
		list = append(list, impl.MaxValue-below, below-impl.MaxValue)
	}
	return list
}

// noDecimals are just beyond the range, around the numbers that would be decimals if bits were dropped, and at both ends of int.
func noDecimals() []int {
	list := []int{math.MinInt, math.MinInt + 1, math.MaxInt - 1, math.MaxInt, 2147483648, -2147483648, 10000000000, -10000000000}
	for step := 1; step <= 1001; step++ {
		list = append(list, impl.MaxValue+step, -impl.MaxValue-step)
	}
	for k := 32; k < 63; k++ {
		p := 1 << k
		list = append(list, p-1, p, p+1, p+1250, -p-1, -p, 1-p, 1250-p)
	}
	return list
}

// exactFix returns the text of n thousandths.
func exactFix(n int) string {
	text := big.NewRat(int64(n), 1000).FloatString(3)
	return strings.TrimSuffix(strings.TrimRight(text, "0"), ".")
}

// exactRead returns what ReadFix must return.
func exactRead(s string) (int, bool) {
	if !fixForm.MatchString(s) {
		return 0, false
	}
	exact, _ := new(big.Rat).SetString(s)
	exact.Mul(exact, big.NewRat(1000, 1))
	if new(big.Rat).Abs(exact).Cmp(big.NewRat(2147483647, 1)) > 0 {
		return 0, false
	}
	return int(exact.Num().Int64()), true
}

// checkReadFix compares ReadFix and FixNormal of any string with math/big.
func checkReadFix(t *testing.T, s string) {
	t.Helper()
	want, wantOk := exactRead(s)
	if n, ok := impl.ReadFix(s); n != want || ok != wantOk {
		t.Errorf("ReadFix(%q) = %d, %v, want %d, %v", s, n, ok, want, wantOk)
	}
	text := ""
	if wantOk {
		text = exactFix(want)
	}
	if normal, ok := impl.FixNormal(s); normal != text || ok != wantOk {
		t.Errorf("FixNormal(%q) = %q, %v, want %q, %v", s, normal, ok, text, wantOk)
	}
}

// checkNotRead checks that ReadFix and FixNormal reject s.
func checkNotRead(t *testing.T, s string) {
	t.Helper()
	if n, ok := impl.ReadFix(s); n != 0 || ok {
		t.Errorf("ReadFix(%q) = %d, %v, want 0, false", s, n, ok)
	}
	if normal, ok := impl.FixNormal(s); normal != "" || ok {
		t.Errorf("FixNormal(%q) = %q, %v, want it empty, false", s, normal, ok)
	}
	checkReadFix(t, s)
}

func TestFixTextOfNamedDecimals(t *testing.T) {
	if impl.MaxValue != 2147483647 {
		t.Error("MaxValue is wrong")
	}
	for _, c := range []struct {
		n int
		s string
	}{
		{0, "0"}, {1, "0.001"}, {-1, "-0.001"}, {10, "0.01"}, {-10, "-0.01"}, {100, "0.1"}, {-100, "-0.1"}, {1000, "1"}, {-1000, "-1"},
		{10000, "10"}, {-10000, "-10"}, {120000, "120"}, {1000000, "1000"}, {-2147483000, "-2147483"},
		{-1250, "-1.25"}, {1200, "1.2"}, {1020, "1.02"}, {1002, "1.002"}, {-1002, "-1.002"}, {1234, "1.234"}, {1230, "1.23"}, {1203, "1.203"},
		{1023, "1.023"}, {1100, "1.1"}, {1110, "1.11"}, {1101, "1.101"}, {1011, "1.011"}, {100100, "100.1"}, {100001, "100.001"},
		{-5, "-0.005"}, {-50, "-0.05"}, {-500, "-0.5"}, {-505, "-0.505"}, {-999, "-0.999"}, {999, "0.999"}, {990, "0.99"}, {900, "0.9"}, {-1001, "-1.001"},
		{impl.MaxValue, "2147483.647"}, {-impl.MaxValue, "-2147483.647"}, {impl.MaxValue - 7, "2147483.64"}, {47 - impl.MaxValue, "-2147483.6"},
	} {
		if s := impl.FixText(c.n); s != c.s {
			t.Errorf("FixText(%d) = %q, want %q", c.n, s, c.s)
		}
		if n, ok := impl.ReadFix(c.s); n != c.n || !ok {
			t.Errorf("ReadFix(%q) = %d, %v, want %d", c.s, n, ok, c.n)
		}
		if s, ok := impl.FixNormal(c.s); s != c.s || !ok {
			t.Errorf("FixNormal(%q) = %q, %v, want the same", c.s, s, ok)
		}
	}
}

func TestDecimalsRoundTrip(t *testing.T) {
	for _, n := range decimals() {
		s := impl.FixText(n)
		if want := exactFix(n); s != want {
			t.Errorf("FixText(%d) = %q, want %q", n, s, want)
		}
		if back, ok := impl.ReadFix(s); back != n || !ok {
			t.Errorf("ReadFix(%q) = %d, %v, want %d", s, back, ok, n)
		}
		if normal, ok := impl.FixNormal(s); normal != s || !ok {
			t.Errorf("FixNormal(%q) = %q, %v, want the same", s, normal, ok)
		}
	}
}

func TestFixTextOutsideTheRange(t *testing.T) {
	for _, n := range noDecimals() {
		if s := impl.FixText(n); s != "" {
			t.Errorf("FixText(%d) = %q, want it empty", n, s)
		}
		// The text that n would have is not read either.
		checkNotRead(t, exactFix(n))
	}
}

// TestWrittenZerosDoNotCount reads each decimal with all numbers of digits that can denote it.
func TestWrittenZerosDoNotCount(t *testing.T) {
	for _, n := range decimals() {
		normal := exactFix(n)
		s := normal
		if !strings.Contains(s, ".") {
			s += ".0"
		}
		for ; len(s)-strings.Index(s, ".") <= 4; s += "0" {
			if back, ok := impl.ReadFix(s); back != n || !ok {
				t.Errorf("ReadFix(%q) = %d, %v, want %d", s, back, ok, n)
			}
			if text, ok := impl.FixNormal(s); text != normal || !ok {
				t.Errorf("FixNormal(%q) = %q, %v, want %q", s, text, ok, normal)
			}
		}
		// The last s has four digits behind the point.
		checkNotRead(t, s)
	}
}

func TestNormalForms(t *testing.T) {
	for _, c := range []struct {
		s, normal string
		n         int
	}{
		{"-0", "0", 0}, {"-0.0", "0", 0}, {"-0.00", "0", 0}, {"-0.000", "0", 0}, {"0.0", "0", 0}, {"0.00", "0", 0}, {"0.000", "0", 0},
		{"1.0", "1", 1000}, {"1.00", "1", 1000}, {"1.000", "1", 1000}, {"-1.0", "-1", -1000}, {"-1.000", "-1", -1000}, {"100.000", "100", 100000},
		{"1.2", "1.2", 1200}, {"1.20", "1.2", 1200}, {"1.200", "1.2", 1200}, {"1.02", "1.02", 1020}, {"1.020", "1.02", 1020}, {"1.002", "1.002", 1002},
		{"-1.500", "-1.5", -1500}, {"-0.5", "-0.5", -500}, {"-0.50", "-0.5", -500}, {"-0.050", "-0.05", -50}, {"0.10", "0.1", 100}, {"0.010", "0.01", 10},
		{"2147483.600", "2147483.6", 2147483600}, {"-2147483.640", "-2147483.64", -2147483640}, {"2147483.0", "2147483", 2147483000},
	} {
		if n, ok := impl.ReadFix(c.s); n != c.n || !ok {
			t.Errorf("ReadFix(%q) = %d, %v, want %d", c.s, n, ok, c.n)
		}
		if s, ok := impl.FixNormal(c.s); s != c.normal || !ok {
			t.Errorf("FixNormal(%q) = %q, %v, want %q", c.s, s, ok, c.normal)
		}
	}
}

func TestOtherFormsAreNotDecimals(t *testing.T) {
	for _, s := range []string{
		"", "-", "--", "--1", "---1", "+", "+1", "+0", "-+1", "+-1", "--0", ".", "-.", "..", ".5", "-.5", ".0", "-.005", "1.", "-1.", "0.", "-0.", "1..", "1..5",
		"1.2.3", "1.2.", "1.-5", "1.+5", "1.5-", "1-", "1-2", "-1-", "1.--", "0.-0", "0.5.", ".1.", "1.2.3.4", "1.23.",
		"1.2345", "1.2340", "1.0000", "0.0000", "-0.0000", "1.00000", "0.0001", "1.2000", "-1.5000", "1.000000000000000000000", "2147483.6470", "1.0005",
		"00", "01", "-00", "-01", "00.5", "01.5", "-01.5", "007", "000", "0000000001", "-0001.250", "0123456789", "00.000",
		" ", " 1", "1 ", "- 1", "1 .5", "1. 5", "1.5 ", "1 2", "\t1", "1\n", "1.5\n", "\n1", "1\r", "1.\r", "\x001", "1\x00", "1.\x00", "1.5\x00",
		"a", "x1", "1x", "1.x", "1.5x", "1.x5", "x", "0x1", "0x1.8", "0b1", "0o7", "1e3", "1.e3", "1.5e", "1e", "e1", "1_0", "1._5", "1_.5", "1.5_", "1/2", "1/", "1:", "1.:", "1./",
		"1,5", "1,000", "1.5,", "$1", "1%", "NaN", "nan", "inf", "Inf", "-Inf", "?", "true", "1.5f", "(1)", "'1'", "\"1\"",
		"\uff11", "\u0661", "1\u0662", "1.\u0665", "1.\uff15", "1.5\u0660", "\u0967.5", "\u00b2", "1\u00b2", "\u00bd", "1\u066b5", "1\uff0e5", "\u22121", "\u20131", "1\u00b75",
		"\xff", "1\xff", "1.\xff", "\xb1", "1.\xb5", "1.5\xb0", "\ufeff1",
	} {
		checkNotRead(t, s)
	}
}

func TestValuesBeyondTheRangeAreNotRead(t *testing.T) {
	for _, s := range []string{
		"2147483.648", "2147483.649", "2147483.65", "2147483.650", "2147483.7", "2147483.999", "2147484", "2147484.0", "2147484.000", "2147490", "2147500", "3000000",
		"9999999", "10000000", "21474836", "21474836.47", "214748364.7", "2147483647", "2147483647.0", "2147483648", "999999999", "999999999.999", "1000000000", "1000000000.5",
		// The thousandths of these are near 2^32, 2^33, 2^63 and 2^64, and would be decimals if bits were dropped.
		"4294967.295", "4294967.296", "4294967.297", "4294968.546", "8589934.592", "9223372036854775.807", "9223372036854775.808", "9223372036854777.058",
		"18446744073709551.615", "18446744073709551.616", "18446744073709551.617", "18446744073709552.866",
		// So would these units.
		"4294967296", "4294967297", "4294967297.25", "9223372036854775807", "9223372036854775808", "18446744073709551615", "18446744073709551616", "18446744073709551617",
		"18446744073709551617.25", "340282366920938463463374607431768211456", "340282366920938463463374607431768211457.5",
		"10000000000000000000", "99999999999999999999", strings.Repeat("9", 40), strings.Repeat("9", 5000), strings.Repeat("9", 5000) + ".999", "1" + strings.Repeat("0", 5000),
		"1" + strings.Repeat("0", 5000) + ".5",
	} {
		checkNotRead(t, s)
		checkNotRead(t, "-"+s)
	}
	for _, s := range []string{
		strings.Repeat("0", 5000), strings.Repeat("0", 5000) + "1", strings.Repeat("0", 5000) + ".5", "0." + strings.Repeat("0", 5000), "1." + strings.Repeat("5", 5000),
		strings.Repeat("-", 5000), strings.Repeat(".", 5000), strings.Repeat("1.", 2500), strings.Repeat("x", 5000), strings.Repeat(" ", 5000) + "1",
	} {
		checkNotRead(t, s)
		checkNotRead(t, "-"+s)
	}
}

// TestReadFixAtTheEnd writes every value near the largest one with each number of places that can denote it.
func TestReadFixAtTheEnd(t *testing.T) {
	for n := impl.MaxValue - 2000; n <= impl.MaxValue+2000; n++ {
		exact := big.NewRat(int64(n), 1000)
		for places := range 4 {
			s := exact.FloatString(places)
			if back, _ := new(big.Rat).SetString(s); back.Cmp(exact) != 0 {
				continue
			}
			checkReadFix(t, s)
			checkReadFix(t, "-"+s)
			if _, ok := impl.ReadFix(s); ok != (n <= impl.MaxValue) {
				t.Errorf("ReadFix(%q) returns %v", s, ok)
			}
			if _, ok := impl.ReadFix("-" + s); ok != (n <= impl.MaxValue) {
				t.Errorf("ReadFix(%q) returns %v", "-"+s, ok)
			}
		}
	}
}

// TestShortTextsOfDecimals tries every text of up to six bytes of an alphabet.
func TestShortTextsOfDecimals(t *testing.T) {
	level := []string{""}
	for range 7 {
		longer := []string{}
		for _, s := range level {
			checkReadFix(t, s)
			for _, c := range []byte("-.0159x") {
				longer = append(longer, s+string([]byte{c}))
			}
		}
		level = longer
	}
}

// TestEveryByteInDecimals puts each byte before, between and after the parts of a decimal, and in the place of each of its bytes.
func TestEveryByteInDecimals(t *testing.T) {
	for _, s := range []string{"0", "5", "-5", "17", "0.5", "-3.25", "2147483.64", "10.125"} {
		for i := range len(s) + 1 {
			for b := range 256 {
				c := string([]byte{byte(b)})
				checkReadFix(t, s[:i]+c+s[i:])
				if i < len(s) {
					checkReadFix(t, s[:i]+c+s[i+1:])
				}
			}
		}
	}
}

// TestAfterATextOfNoDecimal checks that a text that was rejected leaves nothing behind.
func TestAfterATextOfNoDecimal(t *testing.T) {
	for _, bad := range []string{"x", "1.x", "1.5x", "2147483.648", "-2147484", ""} {
		checkNotRead(t, bad)
		if n, ok := impl.ReadFix("-0.25"); n != -250 || !ok {
			t.Errorf("ReadFix of -0.25 after %q = %d, %v", bad, n, ok)
		}
		if s, ok := impl.FixNormal("3.140"); s != "3.14" || !ok {
			t.Errorf("FixNormal of 3.140 after %q = %q, %v", bad, s, ok)
		}
	}
}
