package tests

import (
	"fmt"
	"math"
	"regexp"
	"slices"
	"strconv"
	"strings"
	"testing"

	"loop.example/g00500/impl"
)

// A configKey is a key whose value is one number, with the range of this number and where a configuration keeps it.
type configKey struct {
	key  string
	low  int
	high int
	at   func(*impl.Config) *int
}

var numberKeys = []configKey{
	{"rounds", 1, 8, func(c *impl.Config) *int { return &c.Rounds }},
	{"depth", 0, 4, func(c *impl.Config) *int { return &c.Depth }},
	{"bins", 2, 8, func(c *impl.Config) *int { return &c.Bins }},
	{"lambda", 1, 100, func(c *impl.Config) *int { return &c.Lambda }},
	{"rows", 1, 20, func(c *impl.Config) *int { return &c.Rows }},
}

var (
	partForm   = regexp.MustCompile(`(?s)\A([^=]*)=(.*)\z`)
	numberForm = regexp.MustCompile(`\A(?:0|[1-9][0-9]{0,8})\z`)
	rateForm   = regexp.MustCompile(`\A(0|[1-9][0-9]{0,8})/(0|[1-9][0-9]{0,8})\z`)
	signsForm  = regexp.MustCompile(`\A[-0+](?:,[-0+]){0,3}\z`)
)

// noNumbers are values that Number rejects, many of which a looser reader would take for a number.
var noNumbers = []string{
	"01", "00", "+1", "-1", "-0", " 1", "1 ", "\t1", "1\r", "1=", "1=1", "=1", "=", "", " ", "a", "1a", "0x1", "1.0", "1e0",
	"1_0", "1,", ",1", "1/1", "1,1", "/", "1000000000", "9999999999", "18446744073709551617", "9223372036854775808",
	"\u0661", "1\x00", "\xff",
}

// noRates are values that are not two numbers with a '/' between them.
var noRates = []string{
	"", "1", "/", "1/", "/1", "//", "1//1", "1/1/", "/1/1", "1/1/1", "1/2/", "1 /1", "1/ 1", " 1/1", "1/1 ", "1/1\r", "01/1",
	"1/01", "1/-1", "-1/1", "-1/-1", "+1/1", "1/+1", "1/1=", "=1/1", "1=/1", "1:1", "1,1", "1.0/1", "1/1.0", "a/1", "1/a",
	"1000000000/1000000000", "1/1000000000", "1\\1", "1\u20441",
}

// ratesOutside are two numbers that are not a rate.
var ratesOutside = []string{
	"0/1", "0/0", "1/0", "2/1", "3/2", "1000/999", "1/1001", "1000/1001", "1001/1001", "1001/1", "1001/1000",
	"999999999/999999999", "1/999999999", "999999999/1", "0/1000", "0/1001", "1000/0",
}

// noSigns are values that are not 1 to MaxCols signs.
var noSigns = []string{
	"", ",", "+,", ",+", "+,,0", ",,", "+,0,-,", ",+,0,-", "+,0,-,+,0", "0,0,0,0,0", "+,+,+,+,", "++", "+0", "+0-", "+;0",
	"+ 0", "+, 0", " +", "+ ", "+,0 ", "+\r", "1", "-1", "+1", "1,0,-1", "a", "0,a", "00", "+,00", "=", "+=", "=+", "+,=",
	"0/0", "*", ".", "\u2212", "\uff0b", "\xff", "+,0,-,x", "x,0,-,+,0",
}

// noKeys are texts before the first '=' that are none of the seven keys.
var noKeys = []string{
	"", " ", "hm", "a", "Rounds", "ROUNDS", "Depth", "dePth", "sIgns", "RATE", " rounds", "rounds ", "ro unds", "\tbins",
	"bins\t", "\rbins", "bins\r", "depths", "dept", "epth", "round", "bin", "lambd", "row", "rowss", "rat", "rates", "sign",
	"signs,", "num", "den", "Num", "rate/", "rounds,depth", "rounds:", "#", "\u03bb", "\xff", "\x00", "l\u0430mbda",
	"rows\x00",
}

// goodLines are one line for each key, none with its usual value.
var goodLines = []string{"rounds=8", "depth=0", "bins=2", "lambda=100", "rows=20", "rate=3/1000", "signs=-,0,+"}

// usualConfig returns what UsualConfig must return.
func usualConfig() impl.Config {
	return impl.Config{Rounds: 4, Depth: 2, Bins: 4, Lambda: 1, Rows: 1, Num: 1, Den: 1}
}

// withSigns returns the usual configuration with these signs.
func withSigns(signs ...int) impl.Config {
	c := usualConfig()
	c.Signs = signs
	return c
}

// withRate returns the usual configuration with this rate.
func withRate(num int, den int) impl.Config {
	c := usualConfig()
	c.Num, c.Den = num, den
	return c
}

// equalConfigs compares configurations without the program; a nil slice is an empty one.
func equalConfigs(a impl.Config, b impl.Config) bool {
	return a.Rounds == b.Rounds && a.Depth == b.Depth && a.Bins == b.Bins && a.Lambda == b.Lambda && a.Rows == b.Rows &&
		a.Num == b.Num && a.Den == b.Den && slices.Equal(a.Signs, b.Signs)
}

// exactConfigOk returns what ConfigOk must return.
func exactConfigOk(c impl.Config) bool {
	for _, k := range numberKeys {
		if n := *k.at(&c); n < k.low || n > k.high {
			return false
		}
	}
	for _, sign := range c.Signs {
		if sign != 1 && sign != 0 && sign != -1 {
			return false
		}
	}
	return c.Den >= 1 && c.Den <= 1000 && c.Num >= 1 && c.Num <= c.Den && len(c.Signs) <= 4
}

// exactConfigText returns what ConfigText must return.
func exactConfigText(c impl.Config) string {
	if !exactConfigOk(c) {
		return ""
	}
	text := fmt.Sprintf("rounds=%d\ndepth=%d\nbins=%d\nlambda=%d\nrows=%d\nrate=%d/%d\n", c.Rounds, c.Depth, c.Bins, c.Lambda, c.Rows, c.Num, c.Den)
	for i, sign := range c.Signs {
		text += map[bool]string{true: "signs=", false: ","}[i == 0] + map[int]string{1: "+", 0: "0", -1: "-"}[sign]
	}
	if len(c.Signs) > 0 {
		text += "\n"
	}
	return text
}

// exactConfig returns what ReadConfig must return.
func exactConfig(s string) (impl.Config, impl.Fault) {
	if len(s) > 4000 {
		return impl.Config{}, impl.Fault{Code: 1}
	}
	c, seen := usualConfig(), map[string]bool{}
	for row, part := range strings.Split(s, "\n") {
		if part == "" {
			continue
		}
		if code := exactPart(&c, seen, part); code != 0 {
			return impl.Config{}, impl.Fault{Code: code, Row: row}
		}
	}
	return c, impl.Fault{}
}

// exactPart reads one part that is not empty and returns the code of its fault.
func exactPart(c *impl.Config, seen map[string]bool, part string) int {
	halves := partForm.FindStringSubmatch(part)
	if halves == nil {
		return 10
	}
	key, value := halves[1], halves[2]
	at := slices.IndexFunc(numberKeys, func(k configKey) bool { return k.key == key })
	if at < 0 && key != "rate" && key != "signs" {
		return 11
	}
	if seen[key] {
		return 6
	}
	seen[key] = true
	switch key {
	case "rate":
		return exactRate(c, value)
	case "signs":
		if !signsForm.MatchString(value) {
			return 14
		}
		for i := 0; i < len(value); i += 2 {
			c.Signs = append(c.Signs, strings.IndexByte("-0+", value[i])-1)
		}
		return 0
	}
	if !numberForm.MatchString(value) {
		return 12
	}
	n, _ := strconv.Atoi(value)
	if n < numberKeys[at].low || n > numberKeys[at].high {
		return 13
	}
	*numberKeys[at].at(c) = n
	return 0
}

// exactRate reads the value of rate and returns the code of its fault.
func exactRate(c *impl.Config, value string) int {
	sides := rateForm.FindStringSubmatch(value)
	if sides == nil {
		return 12
	}
	num, _ := strconv.Atoi(sides[1])
	den, _ := strconv.Atoi(sides[2])
	if num < 1 || num > 1000 || den < 1 || den > 1000 || num > den {
		return 13
	}
	c.Num, c.Den = num, den
	return 0
}

// checkConfig checks what ReadConfig returns for s, and that a configuration it returns is valid and round-trips.
func checkConfig(t *testing.T, s string, want impl.Config, fault impl.Fault) {
	t.Helper()
	c, f := impl.ReadConfig(s)
	if f != fault || !equalConfigs(c, want) {
		t.Errorf("ReadConfig(%.80q) = %v, %v, want %v, %v", s, c, f, want, fault)
	}
	if f == (impl.Fault{}) {
		checkConfigTrip(t, c)
	}
}

// checkExactConfig checks what ReadConfig returns for s against the second reader.
func checkExactConfig(t *testing.T, s string) {
	t.Helper()
	want, fault := exactConfig(s)
	checkConfig(t, s, want, fault)
}

// checkConfigTrip checks that c is valid, and that ReadConfig inverts ConfigText.
func checkConfigTrip(t *testing.T, c impl.Config) {
	t.Helper()
	s := impl.ConfigText(c)
	if want := exactConfigText(c); !impl.ConfigOk(c) || s == "" || s != want {
		t.Errorf("ConfigOk(%v) = %v, ConfigText = %q, want %q", c, impl.ConfigOk(c), s, want)
	}
	back, f := impl.ReadConfig(s)
	if f != (impl.Fault{}) || !equalConfigs(back, c) || !impl.SameConfig(back, c) || !impl.SameConfig(c, back) {
		t.Errorf("ReadConfig(%q) = %v, %v, want %v", s, back, f, c)
	}
}

// checkNoConfig checks that c is refused.
func checkNoConfig(t *testing.T, c impl.Config) {
	t.Helper()
	if exactConfigOk(c) {
		t.Errorf("%v is valid", c)
	}
	if ok, text := impl.ConfigOk(c), impl.ConfigText(c); ok || text != "" {
		t.Errorf("ConfigOk(%v) = %v, ConfigText = %q", c, ok, text)
	}
}

// checkPartFault checks the code of the fault of a part, wherever the part is and whatever follows it. No line before it has one of the keys but for lambda.
func checkPartFault(t *testing.T, part string, code int) {
	t.Helper()
	befores := map[string]int{"": 0, "\n": 1, "\n\n\n": 3}
	if !strings.HasPrefix(part, "lambda") {
		befores["lambda=2\n"], befores["lambda=100\n\n"], befores["\n\nlambda=1\n\n\n"] = 1, 2, 5
	}
	for before, row := range befores {
		for _, after := range []string{"", "\n", "\n\n", "\nhm", "\nhm=1", "\ndepth=9\nbins=1", "\nrounds=\n", "\n" + part, "\nsigns=\nrate=", "\n" + strings.Join(goodLines, "\n")} {
			checkConfig(t, before+part+after, impl.Config{}, impl.Fault{Code: code, Row: row})
		}
	}
}

// ordersOf returns the lines in every order.
func ordersOf(lines []string) [][]string {
	if len(lines) == 0 {
		return [][]string{{}}
	}
	all := [][]string{}
	for i, line := range lines {
		others := append(slices.Clone(lines[:i]), lines[i+1:]...)
		for _, order := range ordersOf(others) {
			all = append(all, append([]string{line}, order...))
		}
	}
	return all
}

// allSigns returns every valid list of signs.
func allSigns() [][]int {
	all, last := [][]int{{}}, [][]int{{}}
	for range impl.MaxCols {
		longer := [][]int{}
		for _, signs := range last {
			for sign := -1; sign <= 1; sign++ {
				longer = append(longer, append(slices.Clone(signs), sign))
			}
		}
		all, last = append(all, longer...), longer
	}
	return all
}

func TestConfigConstants(t *testing.T) {
	got := []int{impl.MaxRounds, impl.MaxLevels, impl.MaxBins, impl.MaxLambda, impl.MaxLeast, impl.MaxRate, impl.MaxCols}
	if !slices.Equal(got, []int{8, 4, 8, 100, 20, 1000, 4}) {
		t.Error(got)
	}
}

func TestUsualConfig(t *testing.T) {
	c := impl.UsualConfig()
	if !equalConfigs(c, usualConfig()) || len(c.Signs) != 0 {
		t.Error(c)
	}
	checkConfigTrip(t, c)
	for _, s := range []string{"", "\n", "\n\n", "\n\n\n\n\n", strings.Repeat("\n", impl.MaxText)} {
		checkConfig(t, s, usualConfig(), impl.Fault{})
	}
}

func TestConfigOkOfNumbers(t *testing.T) {
	for _, k := range numberKeys {
		for n := k.low; n <= k.high; n++ {
			c := usualConfig()
			*k.at(&c) = n
			checkConfigTrip(t, c)
		}
		for _, n := range []int{math.MinInt, math.MinInt + 1, -1000000000, -k.high, k.low - 2, k.low - 1, k.high + 1, k.high + 2, 256 + k.low, 1<<32 + k.low, math.MaxInt} {
			c := usualConfig()
			*k.at(&c) = n
			checkNoConfig(t, c)
		}
	}
}

func TestConfigOkOfRates(t *testing.T) {
	ends := []int{math.MinInt, -1001, -1000, -2, -1, 0, 1, 2, 3, 499, 500, 999, 1000, 1001, 1002, 1 << 32, math.MaxInt}
	for _, num := range ends {
		for _, den := range ends {
			if c := withRate(num, den); den < 1 || den > 1000 || num < 1 || num > den {
				checkNoConfig(t, c)
			} else {
				checkConfigTrip(t, c)
			}
		}
	}
	for den := 1; den <= impl.MaxRate; den++ {
		for _, num := range []int{1, (den + 1) / 2, max(den-1, 1), den} {
			checkConfigTrip(t, withRate(num, den))
		}
		checkNoConfig(t, withRate(0, den))
		checkNoConfig(t, withRate(den+1, den))
	}
}

func TestConfigOkOfSigns(t *testing.T) {
	for _, signs := range allSigns() {
		checkConfigTrip(t, withSigns(signs...))
		for at := range signs {
			for _, other := range []int{-2, 2, 3, '+', '-', '0', 255, 256, 1 << 32, math.MinInt, math.MaxInt} {
				wrong := slices.Clone(signs)
				wrong[at] = other
				checkNoConfig(t, withSigns(wrong...))
			}
		}
	}
	for _, n := range []int{5, 6, 8, 9, 40, 256, 260, 1000} {
		for sign := -1; sign <= 1; sign++ {
			checkNoConfig(t, withSigns(slices.Repeat([]int{sign}, n)...))
		}
	}
	checkNoConfig(t, withSigns(0, 0, 0, 0, 2))
}

func TestInvalidConfigs(t *testing.T) {
	checkNoConfig(t, impl.Config{})
	checkNoConfig(t, impl.Config{Signs: []int{0}})
	// One flaw is enough, whatever the other fields are; so are two.
	for _, change := range []func(*impl.Config){
		func(c *impl.Config) { c.Rounds = 0 },
		func(c *impl.Config) { c.Depth = -1 },
		func(c *impl.Config) { c.Bins = 1 },
		func(c *impl.Config) { c.Lambda = 0 },
		func(c *impl.Config) { c.Rows = 0 },
		func(c *impl.Config) { c.Num = 0 },
		func(c *impl.Config) { c.Den = 1001 },
		func(c *impl.Config) { c.Signs = []int{2} },
	} {
		for _, base := range []impl.Config{
			usualConfig(), withSigns(1, 0, -1, 1), withRate(1000, 1000),
			{Rounds: 1, Bins: 2, Lambda: 1, Rows: 1, Num: 1, Den: 1},
			{Rounds: 8, Depth: 4, Bins: 8, Lambda: 100, Rows: 20, Num: 1000, Den: 1000, Signs: []int{-1}},
		} {
			checkConfigTrip(t, base)
			change(&base)
			checkNoConfig(t, base)
			base.Depth = 5
			checkNoConfig(t, base)
		}
	}
}

func TestConfigTextCases(t *testing.T) {
	for _, c := range []struct {
		config impl.Config
		want   string
	}{
		{impl.UsualConfig(), "rounds=4\ndepth=2\nbins=4\nlambda=1\nrows=1\nrate=1/1\n"},
		{withSigns(), "rounds=4\ndepth=2\nbins=4\nlambda=1\nrows=1\nrate=1/1\n"},
		{withSigns(0), "rounds=4\ndepth=2\nbins=4\nlambda=1\nrows=1\nrate=1/1\nsigns=0\n"},
		{withSigns(1, 0, -1, 1), "rounds=4\ndepth=2\nbins=4\nlambda=1\nrows=1\nrate=1/1\nsigns=+,0,-,+\n"},
		{withRate(10, 1000), "rounds=4\ndepth=2\nbins=4\nlambda=1\nrows=1\nrate=10/1000\n"},
		{impl.Config{Rounds: 1, Depth: 0, Bins: 2, Lambda: 1, Rows: 1, Num: 1, Den: 2}, "rounds=1\ndepth=0\nbins=2\nlambda=1\nrows=1\nrate=1/2\n"},
		{impl.Config{Rounds: 8, Depth: 4, Bins: 7, Lambda: 100, Rows: 20, Num: 999, Den: 1000, Signs: []int{-1, -1}}, "rounds=8\ndepth=4\nbins=7\nlambda=100\nrows=20\nrate=999/1000\nsigns=-,-\n"},
	} {
		// The order of the lines must not depend on the run.
		for range 50 {
			if got := impl.ConfigText(c.config); got != c.want {
				t.Fatalf("ConfigText(%v) = %q, want %q", c.config, got, c.want)
			}
		}
	}
}

func TestConfigsRoundTrip(t *testing.T) {
	signs := allSigns()
	for i := range 20000 {
		c := impl.Config{Rounds: 1 + i%8, Depth: i / 3 % 5, Bins: 2 + i/7%7, Lambda: 1 + i*13%100, Rows: 1 + i*17/5%20, Den: 1 + i*19%1000, Signs: signs[i*31%len(signs)]}
		c.Num = 1 + i*7%c.Den
		checkConfigTrip(t, c)
	}
}

func TestReadConfigKeys(t *testing.T) {
	for _, k := range numberKeys {
		for n := k.low; n <= k.high; n++ {
			want := usualConfig()
			*k.at(&want) = n
			for _, s := range []string{"%s=%d", "%s=%d\n", "\n%s=%d", "\n\n%s=%d\n\n"} {
				checkConfig(t, fmt.Sprintf(s, k.key, n), want, impl.Fault{})
			}
		}
	}
	for _, r := range [][2]int{{1, 1}, {1, 2}, {2, 2}, {1, 1000}, {2, 4}, {10, 10}, {999, 1000}, {1000, 1000}} {
		checkConfig(t, fmt.Sprintf("rate=%d/%d", r[0], r[1]), withRate(r[0], r[1]), impl.Fault{})
		checkConfig(t, fmt.Sprintf("rate=%d/%d\n", r[0], r[1]), withRate(r[0], r[1]), impl.Fault{})
	}
	for s, want := range map[string][]int{"+": {1}, "0": {0}, "-": {-1}, "+,0,-": {1, 0, -1}, "-,-,-,-": {-1, -1, -1, -1}, "0,0,0,0": {0, 0, 0, 0}, "-,+,0,+": {-1, 1, 0, 1}} {
		checkConfig(t, "signs="+s, withSigns(want...), impl.Fault{})
		checkConfig(t, "signs="+s+"\n", withSigns(want...), impl.Fault{})
	}
}

func TestReadConfigOrders(t *testing.T) {
	want := impl.Config{Rounds: 8, Depth: 0, Bins: 2, Lambda: 100, Rows: 20, Num: 3, Den: 1000, Signs: []int{-1, 0, 1}}
	for i, order := range ordersOf(goodLines) {
		between, end := strings.Repeat("\n", 1+i%3), strings.Repeat("\n", i%2)
		checkConfig(t, strings.Join(order, between)+end, want, impl.Fault{})
		checkConfig(t, strings.Repeat("\n", i%4)+strings.Join(order, "\n"), want, impl.Fault{})
		// The first lines alone.
		checkExactConfig(t, strings.Join(order[:i%len(order)], between)+end)
	}
}

func TestReadConfigPartFaults(t *testing.T) {
	for _, part := range []string{"hm", "depth", "rounds", "signs", " ", "\r", "\t", "rounds 1", "rounds:1", "1", "/", "+,0", "\"", "\x00", "\xff", "depth\uff1d1", "depth\r", "lambda"} {
		checkPartFault(t, part, impl.FtLine)
	}
	for _, key := range noKeys {
		for _, value := range []string{"1", "", "1/1", "+", "x", "=", "depth=1"} {
			checkPartFault(t, key+"="+value, impl.FtKey)
		}
	}
	for _, k := range numberKeys {
		for _, value := range noNumbers {
			checkPartFault(t, k.key+"="+value, impl.FtNumber)
		}
		outside := []int{k.low - 1, k.high + 1, k.high + 2, 10 * k.high, 1000, 1001, 256 + k.low, 999999999}
		for _, n := range outside {
			if n >= 0 {
				checkPartFault(t, fmt.Sprintf("%s=%d", k.key, n), impl.FtRange)
			}
		}
	}
	for _, value := range noRates {
		checkPartFault(t, "rate="+value, impl.FtNumber)
	}
	for _, value := range ratesOutside {
		checkPartFault(t, "rate="+value, impl.FtRange)
	}
	for _, value := range noSigns {
		checkPartFault(t, "signs="+value, impl.FtSigns)
	}
}

func TestReadConfigJustOutside(t *testing.T) {
	for s, code := range map[string]int{
		"rounds=0": 13, "rounds=1": 0, "rounds=8": 0, "rounds=9": 13, "depth=-1": 12, "depth=0": 0, "depth=4": 0, "depth=5": 13, "bins=1": 13, "bins=2": 0, "bins=8": 0, "bins=9": 13,
		"lambda=0": 13, "lambda=1": 0, "lambda=100": 0, "lambda=101": 13, "rows=0": 13, "rows=1": 0, "rows=20": 0, "rows=21": 13,
		"rate=0/1": 13, "rate=1/1": 0, "rate=2/1": 13, "rate=1/0": 13, "rate=1000/1000": 0, "rate=1/1000": 0, "rate=1/1001": 13, "rate=1001/1001": 13, "rate=999/999": 0, "rate=1000/999": 13,
		"signs=+": 0, "signs=+,+,+,+": 0, "signs=+,+,+,+,+": 14, "signs=": 14, "rows=999999999": 13, "rows=1000000000": 12, "bins=": 12, "": 0,
	} {
		want := impl.Fault{Code: code}
		if c, f := impl.ReadConfig(s); f != want || (code != 0) != equalConfigs(c, impl.Config{}) {
			t.Errorf("ReadConfig(%q) = %v, %v, want %v", s, c, f, want)
		}
		checkExactConfig(t, s)
	}
}

func TestReadConfigTwice(t *testing.T) {
	laters := []string{"", "=", "hm", "0", "01", "999999999", "1/1", "2/1", "1/0", "+", "x,y", "1", "4"}
	for i, line := range goodLines {
		key := line[:strings.Index(line, "=")]
		for _, later := range append(laters, line[len(key)+1:]) {
			twice := key + "=" + later
			checkConfig(t, line+"\n"+twice, impl.Config{}, impl.Fault{Code: impl.FtTwice, Row: 1})
			checkConfig(t, line+"\n\n\n"+twice+"\nhm\n", impl.Config{}, impl.Fault{Code: impl.FtTwice, Row: 3})
			checkConfig(t, "\n"+line+"\n"+twice+"\n"+twice, impl.Config{}, impl.Fault{Code: impl.FtTwice, Row: 2})
			// All the other keys are between the two parts, before the first or behind the second.
			others := strings.Join(append(slices.Clone(goodLines[:i]), goodLines[i+1:]...), "\n")
			checkConfig(t, line+"\n"+others+"\n"+twice, impl.Config{}, impl.Fault{Code: impl.FtTwice, Row: 7})
			checkConfig(t, others+"\n"+line+"\n"+twice, impl.Config{}, impl.Fault{Code: impl.FtTwice, Row: 7})
			checkConfig(t, line+"\n"+twice+"\n"+others, impl.Config{}, impl.Fault{Code: impl.FtTwice, Row: 1})
		}
		// Without '=', it is no line; and a key that is none of the seven is that however often it occurs.
		checkConfig(t, line+"\n"+key, impl.Config{}, impl.Fault{Code: impl.FtLine, Row: 1})
		checkConfig(t, line+"\n"+strings.ToUpper(line), impl.Config{}, impl.Fault{Code: impl.FtKey, Row: 1})
		checkConfig(t, line+"\nhm=1\nhm=1", impl.Config{}, impl.Fault{Code: impl.FtKey, Row: 1})
	}
	// The usual value counts as much as another one; the first part's fault comes before that of the second.
	checkConfig(t, "depth=2\ndepth=2", impl.Config{}, impl.Fault{Code: impl.FtTwice, Row: 1})
	checkConfig(t, "depth=5\ndepth=2", impl.Config{}, impl.Fault{Code: impl.FtRange})
	checkConfig(t, "depth=\ndepth=2", impl.Config{}, impl.Fault{Code: impl.FtNumber})
	checkConfig(t, "signs=\nsigns=+", impl.Config{}, impl.Fault{Code: impl.FtSigns})
	checkConfig(t, "rate=2/1\nrate=1/2", impl.Config{}, impl.Fault{Code: impl.FtRange})
}

// TestReadConfigSequences checks up to three parts of each kind, one behind the other.
func TestReadConfigSequences(t *testing.T) {
	parts := []string{"", "rounds=8", "rounds=9", "depth=0", "depth=", "bins=2", "bins=1", "rate=1/2", "rate=2/1", "rate=1", "signs=+,0", "signs=1", "hm", "=", "hm=1", "Depth=1", "lambda=7", "rows=20", " "}
	for _, a := range parts {
		for _, b := range parts {
			for _, c := range parts {
				checkExactConfig(t, a+"\n"+b+"\n"+c)
			}
			checkExactConfig(t, a+"\n"+b)
			checkExactConfig(t, a+b)
		}
	}
	for _, s := range textsOf([]string{"rate", "signs", "=", "\n", "/", "1", "0", "+", ","}, 5) {
		checkExactConfig(t, s)
	}
}

// TestReadConfigNearValidTexts checks each text that differs from a valid one in one byte.
func TestReadConfigNearValidTexts(t *testing.T) {
	full := impl.Config{Rounds: 8, Depth: 4, Bins: 3, Lambda: 10, Rows: 12, Num: 10, Den: 100, Signs: []int{1, 0, -1, 1}}
	for _, c := range []impl.Config{usualConfig(), full} {
		s := exactConfigText(c)
		for at := range s {
			checkExactConfig(t, s[:at])
			checkExactConfig(t, s[at:])
			checkExactConfig(t, s[:at]+s[at+1:])
			for other := range 256 {
				one := string([]byte{byte(other)})
				checkExactConfig(t, s[:at]+one+s[at:])
				checkExactConfig(t, s[:at]+one+s[at+1:])
			}
		}
	}
	// A byte 13 is not a part of the line's end here.
	checkConfig(t, "depth=1\r\nbins=2\r\n", impl.Config{}, impl.Fault{Code: impl.FtNumber})
	checkConfig(t, "depth=1\n\r\nbins=2\n", impl.Config{}, impl.Fault{Code: impl.FtLine, Row: 1})
}

func TestReadConfigLength(t *testing.T) {
	most := impl.MaxText
	good := strings.Join(goodLines, "\n")
	padded := func(before string, after string) string {
		return before + strings.Repeat("\n", most-len(before)-len(after)) + after
	}
	for _, s := range []string{
		padded("", ""), padded(good, ""), padded("", good), padded("rounds=1", "depth=1"), padded("rounds=1", "rounds=2"), padded("", "hm"), padded("", "="), padded("bins=9", ""),
		strings.Repeat("a", most), strings.Repeat("=", most), strings.Repeat("\xff", most), "depth=" + strings.Repeat("1", most-6), "rate=1/" + strings.Repeat("1", most-7),
		"signs=" + strings.Repeat("+,", (most-6)/2), "signs=+" + strings.Repeat(",", most-7), "rows=" + strings.Repeat("0", most-6) + "1", strings.Repeat("hm=1\n", most/5),
	} {
		if len(s) != most {
			t.Error("not the longest text", len(s))
		}
		checkExactConfig(t, s)
		for _, longer := range []string{s + "\n", "\n" + s, s + "a", s + "=", s + "\xff", s + s} {
			checkConfig(t, longer, impl.Config{}, impl.Fault{Code: impl.FtLong})
		}
	}
	checkConfig(t, padded(good, ""), impl.Config{Rounds: 8, Depth: 0, Bins: 2, Lambda: 100, Rows: 20, Num: 3, Den: 1000, Signs: []int{-1, 0, 1}}, impl.Fault{})
	checkConfig(t, padded("", "hm"), impl.Config{}, impl.Fault{Code: impl.FtLine, Row: most - 2})
	// The length is that in bytes, not that in runes.
	checkConfig(t, strings.Repeat("\u00e9", most/2)+"a", impl.Config{}, impl.Fault{Code: impl.FtLong})
	checkConfig(t, strings.Repeat("depth=1\n", 1<<17), impl.Config{}, impl.Fault{Code: impl.FtLong})
}

func TestSameConfig(t *testing.T) {
	// No two of these are the same, valid or not.
	all := []impl.Config{usualConfig(), {}, withRate(1, 2), withRate(2, 1), withRate(2, 4)}
	for _, k := range numberKeys {
		for _, n := range []int{-1, 7, math.MaxInt, math.MinInt} {
			c := usualConfig()
			*k.at(&c) = n
			all = append(all, c)
		}
	}
	for _, signs := range append(allSigns()[1:], []int{0, 0, 0, 0, 0}, []int{0, 0, 0, 0, 1}, []int{2}, []int{257}, []int{1, 2}, []int{math.MinInt}) {
		all = append(all, withSigns(signs...))
	}
	all = append(all, impl.Config{Signs: []int{0}}, impl.Config{Num: 1}, impl.Config{Den: 1})
	for i, a := range all {
		for j, b := range all {
			b.Signs = append([]int{}, b.Signs...)
			if got := impl.SameConfig(a, b); got != (i == j) {
				t.Errorf("SameConfig(%v, %v) = %v", a, b, got)
			}
		}
	}
	none, empty := withSigns(), withSigns([]int{}...)
	none.Signs = nil
	empty.Signs = []int{}
	if !impl.SameConfig(none, empty) || !impl.SameConfig(empty, none) || !impl.SameConfig(none, none) {
		t.Error("a nil slice is an empty one")
	}
}

func TestSignFor(t *testing.T) {
	outside := []int{math.MinInt, -1000, -5, -4, -3, -2, -1, 1000, 1 << 32, math.MaxInt}
	for _, signs := range append(allSigns(), []int{2, -3, 9}, []int{math.MaxInt, math.MinInt}, slices.Repeat([]int{1}, 9)) {
		// A SignFor of an invalid configuration is what the list has.
		for _, c := range []impl.Config{withSigns(signs...), {Signs: signs}, {Signs: append(slices.Clone(signs), 7, 7, 7)[:len(signs)]}} {
			for f, want := range signs {
				if got := impl.SignFor(c, f); got != want {
					t.Errorf("SignFor(%v, %d) = %d", c, f, got)
				}
			}
			for _, f := range append(outside, len(signs), len(signs)+1, len(signs)+2) {
				if got := impl.SignFor(c, f); got != 0 {
					t.Errorf("SignFor(%v, %d) = %d, want 0", c, f, got)
				}
			}
		}
	}
	for f := -2; f <= 4; f++ {
		if got := impl.SignFor(impl.UsualConfig(), f) + impl.SignFor(impl.Config{}, f); got != 0 {
			t.Error("SignFor without signs", f, got)
		}
	}
}

func TestConfigArgumentsUnchanged(t *testing.T) {
	memory := []int{1, 0, -1, 5, 5, 5}
	c := withSigns(memory[:3]...)
	kept := c
	impl.ConfigOk(c)
	impl.ConfigText(c)
	impl.SameConfig(c, c)
	impl.SignFor(c, 3)
	if !slices.Equal(memory, []int{1, 0, -1, 5, 5, 5}) || !equalConfigs(c, kept) || len(c.Signs) != 3 {
		t.Error("changed", memory, c)
	}
}

func TestConfigResultsAreApart(t *testing.T) {
	s := "signs=+,0,-\ndepth=1"
	first, _ := impl.ReadConfig(s)
	second, _ := impl.ReadConfig(s)
	usual := impl.UsualConfig()
	for i := range first.Signs {
		first.Signs[i] = 9
	}
	_ = append(first.Signs, 9)
	first.Depth, usual.Rounds, usual.Signs = 9, 9, append(usual.Signs, 9)
	want := withSigns(1, 0, -1)
	want.Depth = 1
	if !equalConfigs(second, want) {
		t.Error("the second result changed with the first", second)
	}
	checkConfig(t, s, want, impl.Fault{})
	// Neither a fault nor a configuration with signs is kept for the next text.
	checkConfig(t, "signs=-,-\nrounds=9", impl.Config{}, impl.Fault{Code: impl.FtRange, Row: 1})
	checkConfig(t, "", usualConfig(), impl.Fault{})
	if c := impl.UsualConfig(); !equalConfigs(c, usualConfig()) {
		t.Error("UsualConfig changed", c)
	}
}
