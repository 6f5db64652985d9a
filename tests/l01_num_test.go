package tests

import (
	"fmt"
	"math"
	"math/big"
	"slices"
	"strings"
	"testing"

	"loop.example/g00500/impl"
)

// edgeInts are the integers around zero, the powers of two and of ten, the limit of Number, and both ends of int.
func edgeInts() []int {
	list := []int{math.MinInt, math.MinInt + 1, math.MaxInt - 1, math.MaxInt, 999999998, 999999999, 1000000000}
	for n := -1100; n <= 1100; n++ {
		list = append(list, n)
	}
	for k := range 63 {
		p := 1 << k
		list = append(list, p-1, p, p+1, -p-1, -p, 1-p)
	}
	for k, p := 0, 1; k < 19; k, p = k+1, p*10 {
		list = append(list, p-1, p, p+1, -p-1, -p, 1-p)
	}
	return list
}

// notDigits are texts that are the Digits of no integer.
func notDigits() []string {
	return []string{
		"", "-", "+", "--1", "+1", "+0", "-0", "-00", "00", "01", "-01", "007", "0000000000000000000001",
		" 1", "1 ", "\t1", "1\n", "1\r", "\x001", "1\x00", "1-", "1-2", "- 1", "1.0", "1.", ".1", "1e3", "1,000",
		"0x1", "0b1", "0o1", "1_0", "_1", "a", "1a", "a1", "?", "true", "\xff", "1\xff", "\uff11", "\u0661", "\u22121",
		"9223372036854775808", "-9223372036854775809", "9223372036854775810", "10000000000000000000",
		"18446744073709551615", "18446744073709551616", "18446744073709551617", "-18446744073709551616",
		"99999999999999999999", "340282366920938463463374607431768211457", strings.Repeat("9", 5000), "-" + strings.Repeat("1", 5000),
	}
}

func TestDigitsOfNamedIntegers(t *testing.T) {
	for _, c := range []struct {
		n int
		s string
	}{
		{0, "0"}, {7, "7"}, {-7, "-7"}, {10, "10"}, {-10, "-10"}, {120, "120"}, {-1205, "-1205"}, {999999999, "999999999"},
		{9223372036854775807, "9223372036854775807"}, {-9223372036854775807, "-9223372036854775807"},
		{-9223372036854775808, "-9223372036854775808"},
	} {
		if s := impl.Digits(c.n); s != c.s {
			t.Errorf("Digits(%d) = %q, want %q", c.n, s, c.s)
		}
		if n, ok := impl.IntText(c.s); n != c.n || !ok {
			t.Errorf("IntText(%q) = %d, %v, want %d", c.s, n, ok, c.n)
		}
	}
}

func TestIntegersRoundTrip(t *testing.T) {
	for _, n := range edgeInts() {
		s := impl.Digits(n)
		if want := big.NewInt(int64(n)).String(); s != want {
			t.Errorf("Digits(%d) = %q, want %q", n, s, want)
		}
		if m, ok := impl.IntText(s); m != n || !ok {
			t.Errorf("IntText(%q) = %d, %v", s, m, ok)
		}
		m, ok := impl.Number(s)
		if n >= 0 && n <= 999999999 {
			if m != n || !ok {
				t.Errorf("Number(%q) = %d, %v", s, m, ok)
			}
		} else if m != 0 || ok {
			t.Errorf("Number(%q) = %d, %v, want 0, false", s, m, ok)
		}
	}
}

func TestTextsOfNoInteger(t *testing.T) {
	for _, s := range notDigits() {
		if n, ok := impl.IntText(s); n != 0 || ok {
			t.Errorf("IntText(%q) = %d, %v, want 0, false", s, n, ok)
		}
		if n, ok := impl.Number(s); n != 0 || ok {
			t.Errorf("Number(%q) = %d, %v, want 0, false", s, n, ok)
		}
	}
}

// TestShortTexts tries every text of up to four bytes of an alphabet against the texts of all integers that short.
func TestShortTexts(t *testing.T) {
	known := map[string]int{}
	for n := -999; n <= 9999; n++ {
		known[fmt.Sprint(n)] = n
	}
	level := []string{""}
	for range 5 {
		var longer []string
		for _, s := range level {
			want, is := known[s]
			if n, ok := impl.IntText(s); n != want || ok != is {
				t.Errorf("IntText(%q) = %d, %v, want %d, %v", s, n, ok, want, is)
			}
			if want < 0 {
				want, is = 0, false
			}
			if n, ok := impl.Number(s); n != want || ok != is {
				t.Errorf("Number(%q) = %d, %v, want %d, %v", s, n, ok, want, is)
			}
			for _, c := range []byte("-+0129 _.eax\x00\xb2") {
				longer = append(longer, s+string([]byte{c}))
			}
		}
		level = longer
	}
}

func TestNumberOutsideItsRange(t *testing.T) {
	for _, s := range []string{
		"-1", "-999999999", "1000000000", "1000000001", "4294967296", "4294967297", "9999999999",
		"9223372036854775807", "-9223372036854775808",
	} {
		if n, ok := impl.Number(s); n != 0 || ok {
			t.Errorf("Number(%q) = %d, %v, want 0, false", s, n, ok)
		}
	}
	for _, c := range []struct {
		s string
		n int
	}{{"0", 0}, {"1", 1}, {"40", 40}, {"999999998", 999999998}, {"999999999", 999999999}} {
		if n, ok := impl.Number(c.s); n != c.n || !ok {
			t.Errorf("Number(%q) = %d, %v", c.s, n, ok)
		}
	}
}

// TestAfterAnInvalidText checks that a text that was rejected leaves nothing behind.
func TestAfterAnInvalidText(t *testing.T) {
	for range 3 {
		if n, ok := impl.IntText("x"); n != 0 || ok {
			t.Error("IntText accepts x", n)
		}
		if n, ok := impl.IntText("-8"); n != -8 || !ok {
			t.Error("IntText rejects -8 after x", n)
		}
		if n, ok := impl.Number("1000000000"); n != 0 || ok {
			t.Error("Number accepts 1000000000", n)
		}
		if n, ok := impl.Number("8"); n != 8 || !ok {
			t.Error("Number rejects 8 after 1000000000", n)
		}
	}
}

func TestParts(t *testing.T) {
	for _, c := range []struct {
		s    string
		by   byte
		want []string
	}{
		{"", ',', []string{""}}, {"", 0, []string{""}}, {"a", ',', []string{"a"}}, {",", ',', []string{"", ""}},
		{"a,b", ',', []string{"a", "b"}}, {",a", ',', []string{"", "a"}}, {"a,", ',', []string{"a", ""}},
		{",a,", ',', []string{"", "a", ""}}, {"a,,b", ',', []string{"a", "", "b"}}, {",,,", ',', []string{"", "", "", ""}},
		{"a b,c", ' ', []string{"a", "b,c"}}, {"x=1\ny=2\n", '\n', []string{"x=1", "y=2", ""}},
		{"a\x00b", 0, []string{"a", "b"}}, {"a\xffb\xff", 0xff, []string{"a", "b", ""}},
		{"\u00e9", 0xa9, []string{"\xc3", ""}}, {"\u00e9", 0xc3, []string{"", "\xa9"}}, {"\u00e9", 0xe9, []string{"\u00e9"}},
		{"aAa", 'A', []string{"a", "a"}}, {" a ", ',', []string{" a "}},
	} {
		if p := impl.Parts(c.s, c.by); !slices.Equal(p, c.want) {
			t.Errorf("Parts(%q, %q) = %q, want %q", c.s, c.by, p, c.want)
		}
	}
}

func TestJoined(t *testing.T) {
	for _, c := range []struct {
		list []string
		by   string
		want string
	}{
		{nil, ",", ""}, {[]string{}, ",", ""}, {nil, "", ""}, {[]string{""}, ",", ""}, {[]string{"a"}, ",", "a"},
		{[]string{"", ""}, ",", ","}, {[]string{"", "", ""}, "--", "----"}, {[]string{"a", "b"}, ",", "a,b"},
		{[]string{"", "a"}, ",", ",a"}, {[]string{"a", ""}, ",", "a,"}, {[]string{"a", "", "b"}, "; ", "a; ; b"},
		{[]string{"a", "", "b"}, "", "ab"}, {[]string{"a,", ",b"}, ",", "a,,,b"}, {[]string{"\xff", "\u00e9"}, "\x00", "\xff\x00\u00e9"},
	} {
		if s := impl.Joined(c.list, c.by); s != c.want {
			t.Errorf("Joined(%q, %q) = %q, want %q", c.list, c.by, s, c.want)
		}
	}
}

// TestPartsAndJoinedRoundTrip splits and joins every text of up to four of some bytes, at every byte.
func TestPartsAndJoinedRoundTrip(t *testing.T) {
	level := []string{""}
	for range 5 {
		var longer []string
		for _, s := range level {
			for by := range 256 {
				checkSplit(t, s, byte(by))
			}
			for _, c := range []byte("a,\x00\xc3\xa9") {
				longer = append(longer, s+string([]byte{c}))
			}
		}
		level = longer
	}
}

func checkSplit(t *testing.T, s string, by byte) {
	t.Helper()
	sep := string([]byte{by})
	list := impl.Parts(s, by)
	if len(list) != strings.Count(s, sep)+1 {
		t.Errorf("Parts(%q, %q) has %d parts", s, by, len(list))
	}
	for _, part := range list {
		if strings.Contains(part, sep) {
			t.Errorf("Parts(%q, %q) has the part %q", s, by, part)
		}
	}
	joined := impl.Joined(list, sep)
	if joined != s {
		t.Errorf("Parts(%q, %q) joined is %q", s, by, joined)
	}
	if again := impl.Parts(joined, by); !slices.Equal(again, list) {
		t.Errorf("%q joined by %q is split to %q", list, by, again)
	}
}

func TestArgumentsAndResultsAreApart(t *testing.T) {
	back := []string{"a", "b", "kept", "kept"}
	if s := impl.Joined(back[:2], ","); s != "a,b" {
		t.Error("Joined", s)
	}
	if !slices.Equal(back, []string{"a", "b", "kept", "kept"}) {
		t.Errorf("Joined changed its list or what is behind it: %q", back)
	}
	first, second := impl.Parts("a,b", ','), impl.Parts("a,b", ',')
	first[0] = "x"
	first = append(first, "y")
	if !slices.Equal(second, []string{"a", "b"}) || !slices.Equal(impl.Parts("a,b", ','), []string{"a", "b"}) {
		t.Errorf("results of Parts share memory: %q, %q", first, second)
	}
}
