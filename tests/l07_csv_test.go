package tests

import (
	"regexp"
	"slices"
	"strings"
	"testing"

	"loop.example/g00500/impl"
)

// csvBytes are the bytes that CSV gives a meaning, and one that it does not.
var csvBytes = []string{",", "\"", "\n", "\r", "a"}

// otherBytes are parts of texts that are not ASCII or not valid UTF-8; some end where a byte that has a meaning would begin.
var otherBytes = []string{"é", "日", "\U0001f600", "\ufffd", "\xff", "\x80", "\xc3", "\xe6\x97", "\xf0\x9f\x98", "\u2028", "\u0085", "\x00", "\x8a", "\x8d", "\xa2", "\xac", " ", "\t", "\v", "\u010a", "\u010d", "\u0122", "\u012c"}

// csvForm is one field and what ends it.
var csvForm = regexp.MustCompile(`\A(?:"((?:[^"]|"")*)"|([^,"\r\n]*))(,|\r?\n|\z)`)

// noRows are the rows that ReadCsv returns where there is a fault.
var noRows [][]string

// textsOf returns all concatenations of up to most of the pieces.
func textsOf(pieces []string, most int) []string {
	all, last := []string{""}, []string{""}
	for range most {
		longer := []string{}
		for _, s := range last {
			for _, piece := range pieces {
				longer = append(longer, s+piece)
			}
		}
		all, last = append(all, longer...), longer
	}
	return all
}

// exactField returns what CsvField must return.
func exactField(s string) string {
	quoted, inner := false, []byte{}
	for _, c := range []byte(s) {
		switch c {
		case '"':
			quoted, inner = true, append(inner, '"', '"')
		case ',', 10, 13:
			quoted, inner = true, append(inner, c)
		default:
			inner = append(inner, c)
		}
	}
	if quoted {
		return "\"" + string(inner) + "\""
	}
	return string(inner)
}

// exactCsv returns what CsvText must return.
func exactCsv(rows [][]string) string {
	text := ""
	for _, row := range rows {
		fields := []string{}
		for _, field := range row {
			fields = append(fields, exactField(field))
		}
		text += strings.Join(fields, ",") + "\n"
	}
	return text
}

// exactRows returns what ReadCsv must return for a text that is not too long.
func exactRows(s string) ([][]string, impl.Fault) {
	rows, row := [][]string{}, []string{}
	for s != "" || len(row) > 0 {
		found := csvForm.FindStringSubmatch(s)
		if found == nil {
			return nil, impl.Fault{Code: 2, Row: len(rows), Col: len(row)}
		}
		row = append(row, strings.ReplaceAll(found[1], `""`, `"`)+found[2])
		if found[3] != "," {
			rows, row = append(rows, row), []string{}
		}
		s = s[len(found[0]):]
	}
	return rows, impl.Fault{}
}

// equalRows compares rows without the program.
func equalRows(a [][]string, b [][]string) bool {
	if len(a) != len(b) {
		return false
	}
	for i := range a {
		if !slices.Equal(a[i], b[i]) {
			return false
		}
	}
	return true
}

// checkRows checks what ReadCsv returns for s.
func checkRows(t *testing.T, s string, want [][]string, fault impl.Fault) {
	t.Helper()
	rows, f := impl.ReadCsv(s)
	if f != fault || !equalRows(rows, want) {
		t.Errorf("ReadCsv(%.80q) = %.80q, %v, want %.80q, %v", s, rows, f, want, fault)
	}
}

// checkRoundTrip checks that ReadCsv inverts CsvText.
func checkRoundTrip(t *testing.T, rows [][]string) {
	t.Helper()
	s := impl.CsvText(rows)
	if want := exactCsv(rows); s != want {
		t.Errorf("CsvText(%q) = %q, want %q", rows, s, want)
	}
	checkRows(t, s, rows, impl.Fault{})
	if back, _ := impl.ReadCsv(s); !impl.SameRows(rows, back) {
		t.Errorf("SameRows(%q, %q) = false", rows, back)
	}
}

// checkFault checks that s has a fault of a quote in the field at row and col, wherever that field is.
func checkFault(t *testing.T, s string) {
	t.Helper()
	checkRows(t, s, noRows, impl.Fault{Code: impl.FtQuote})
	for before, at := range map[string]impl.Fault{
		",":                           {Col: 1},
		"a,b\r\n":                     {Row: 1},
		"\n":                          {Row: 1},
		"\r\n\n":                      {Row: 2},
		"a\nb,,":                      {Row: 1, Col: 2},
		"\"\"\n":                      {Row: 1},
		"\"a\nb\r\n,\"\"\",\"\"\r\n,": {Row: 1, Col: 1},
		"é,\xff,\"日,\n\",":            {Col: 3},
		"a\nb\nc\n,,,,":               {Row: 3, Col: 4},
	} {
		at.Code = impl.FtQuote
		checkRows(t, before+s, noRows, at)
	}
}

func TestFaultConstants(t *testing.T) {
	codes := []int{impl.FtLong, impl.FtQuote, impl.FtEmpty, impl.FtWidth, impl.FtName, impl.FtTwice, impl.FtCols,
		impl.FtRows, impl.FtValue, impl.FtLine, impl.FtKey, impl.FtNumber, impl.FtRange, impl.FtSigns}
	for i, code := range codes {
		if code != i+1 {
			t.Errorf("code %d is %d", i+1, code)
		}
	}
	if impl.MaxText != 4000 || len(codes) != 14 {
		t.Error("MaxText or the number of codes", impl.MaxText, len(codes))
	}
}

func TestCsvFieldCases(t *testing.T) {
	for s, want := range map[string]string{
		"": "", "a": "a", " a b ": " a b ", "'": "'", ";": ";", "\t": "\t", "\\": "\\",
		",": "\",\"", "a,b": "\"a,b\"", "\n": "\"\n\"", "\r": "\"\r\"", "\r\n": "\"\r\n\"", "a\r": "\"a\r\"",
		"\"": "\"\"\"\"", "\"\"": "\"\"\"\"\"\"", "a\"b": "\"a\"\"b\"", "\"a\"": "\"\"\"a\"\"\"",
		"é日": "é日", "\xff": "\xff", "\xff,\xc3": "\"\xff,\xc3\"", "é\"\xc3": "\"é\"\"\xc3\"", "\u2028\u0085": "\u2028\u0085",
	} {
		if got := impl.CsvField(s); got != want {
			t.Errorf("CsvField(%q) = %q, want %q", s, got, want)
		}
	}
	for c := range 256 {
		for _, s := range []string{string([]byte{byte(c)}), string([]byte{'a', byte(c)}), string([]byte{byte(c), 'a'})} {
			if got := impl.CsvField(s); got != exactField(s) {
				t.Errorf("CsvField(%q) = %q, want %q", s, got, exactField(s))
			}
		}
	}
	for _, s := range textsOf(csvBytes, 5) {
		if got := impl.CsvField(s); got != exactField(s) {
			t.Errorf("CsvField(%q) = %q, want %q", s, got, exactField(s))
		}
	}
}

func TestCsvFieldLong(t *testing.T) {
	// The limit is ReadCsv's alone.
	long := strings.Repeat("a\"", impl.MaxText)
	if got := impl.CsvField(long); got != exactField(long) {
		t.Error("CsvField of a long text")
	}
	if got := impl.CsvText([][]string{{long, "b"}, {}}); got != exactField(long)+",b\n\n" {
		t.Error("CsvText of a long field")
	}
}

func TestCsvTextCases(t *testing.T) {
	for _, c := range []struct {
		rows [][]string
		want string
	}{
		{nil, ""},
		{[][]string{}, ""},
		{[][]string{{}}, "\n"},
		{[][]string{nil, {}}, "\n\n"},
		{[][]string{{""}}, "\n"},
		{[][]string{{""}, {""}}, "\n\n"},
		{[][]string{{"", ""}}, ",\n"},
		{[][]string{{"", "", ""}, {"a"}}, ",,\na\n"},
		{[][]string{{"a", "b"}, {"c"}}, "a,b\nc\n"},
		{[][]string{{"a,b", "\""}, {"\r\n"}}, "\"a,b\",\"\"\"\"\n\"\r\n\"\n"},
		{[][]string{{"é", "\xff"}}, "é,\xff\n"},
	} {
		if got := impl.CsvText(c.rows); got != c.want {
			t.Errorf("CsvText(%q) = %q, want %q", c.rows, got, c.want)
		}
	}
}

func TestReadCsvRows(t *testing.T) {
	for s, want := range map[string][][]string{
		"":                    {},
		"\n":                  {{""}},
		"\r\n":                {{""}},
		"\n\n":                {{""}, {""}},
		"\r\n\n\r\n":          {{""}, {""}, {""}},
		"a":                   {{"a"}},
		"a\n":                 {{"a"}},
		"a\r\n":               {{"a"}},
		"a\n\n":               {{"a"}, {""}},
		"\na":                 {{""}, {"a"}},
		"a,b\nc":              {{"a", "b"}, {"c"}},
		"a,b\r\nc\r\n":        {{"a", "b"}, {"c"}},
		"a\r\nb\nc":           {{"a"}, {"b"}, {"c"}},
		",":                   {{"", ""}},
		",\n":                 {{"", ""}},
		",\r\n":               {{"", ""}},
		",,,":                 {{"", "", "", ""}},
		"a,":                  {{"a", ""}},
		"a,\n":                {{"a", ""}},
		"a,\r\nb,":            {{"a", ""}, {"b", ""}},
		"\"\"":                {{""}},
		"\"\"\n":              {{""}},
		"\"\"\r\n":            {{""}},
		"\"\",\"\"":           {{"", ""}},
		"a,\"\"":              {{"a", ""}},
		"a,\"\"\r\n\"\"":      {{"a", ""}, {""}},
		"\"\"\"\"":            {{"\""}},
		"\"\"\"\"\"\"":        {{"\"\""}},
		"\"\"\"\"\"\"\"\"":    {{"\"\"\""}},
		"\"\"\",\"\"\"":       {{"\",\""}},
		"\"\"\"\",\"\"\"\"":   {{"\"", "\""}},
		"\"a\"":               {{"a"}},
		"\"a,b\nc\"":          {{"a,b\nc"}},
		"\"a\r\nb\",c":        {{"a\r\nb", "c"}},
		"\"\r\"\r\n":          {{"\r"}},
		"\"a\r\"":             {{"a\r"}},
		"\"\r\n\"\r\n":        {{"\r\n"}},
		"\"\r\r\n\n\"\n":      {{"\r\r\n\n"}},
		"\"a\"\"b\"":          {{"a\"b"}},
		"\"\"\"a\"\"\"":       {{"\"a\""}},
		" a , b ":             {{" a ", " b "}},
		"'a,b'":               {{"'a", "b'"}},
		"a;b\tc":              {{"a;b\tc"}},
		"é,\xff\n\xc3":        {{"é", "\xff"}, {"\xc3"}},
		"\xc3,\xe6\x97\n":     {{"\xc3", "\xe6\x97"}},
		"\"\xc3\",\"\xff\n\"": {{"\xc3", "\xff\n"}},
		"\ufffd,\"\ufffd\"":   {{"\ufffd", "\ufffd"}},
		"\xef\xbb\xbfa":       {{"\xef\xbb\xbfa"}},
		"\x00":                {{"\x00"}},
	} {
		checkRows(t, s, want, impl.Fault{})
	}
}

func TestReadCsvFaults(t *testing.T) {
	faults := []string{
		"a\"", "a\"b", "a\"\"", "a\"b\"", " \"a\"", "é\"", "\xff\"", "\xc3\"",
		"\"a\"b", "\"a\" ", "\"\"a", "\"\" ", "\"a\"\"\"b", "\"a\"é", "\"a\"\xff", "\"a\" \"b\"", "\"\"\"\"a\"", "\"a\"b,\"c\"", "\"a\"\x00",
		"\"a\"\r", "\"\"\r", "\"a\"\ra", "\"a\"\r\r", "\"a\"\r\r\n", "\"a\"\r,", "\"a\"\r\"", "\"a\"\ré\n",
		"\"", "\"a", "\"\"\"", "\"a\"\"", "\"a\n", "\"a\r\n", "\"a,b", "\"\n", "\"\r", "\"a\nb,c\nd", "\"a\n\"\"\n", "\"a\"\"\nb", "\"\xff", "\"é\n", "\"\"\"\"\"",
		"\r", "a\r", "\rb", "a\rb", "a\rb\n", "\r\r", "a\r\r", "a\r\r\n", "\r\r\n", "a\r,", "\r,", "a\r\"", "\r\"", "\r\"\"", "\r\"\n", "a\r\"\n\"", "\r ", "\ré", "\r\xff", "\r\u010a", "é\r", "\xc3\r", "\xff\r\r\n",
	}
	for _, s := range faults {
		checkFault(t, s)
	}
	for _, c := range []struct {
		s   string
		row int
		col int
	}{
		// The first fault counts.
		{"a,b\"c\nd\"e", 0, 1},
		{"a\rb,c\"d", 0, 0},
		{"a,\"b\"c\n\"d", 0, 1},
		{"a\n\"b\",c\r,\"", 1, 1},
		{"a,b,\"c\nd,e\nf,g\"h\ni", 0, 2},
		{"\"a\n\"\n\"b,\n\n", 1, 0},
		{"\"a\n\n\",\"b", 0, 1},
		{"a\n\n\nb,\r", 3, 1},
		{"a\r\n\r\n,,\"", 2, 2},
		{"a,\"b\"\r\nc\r", 1, 0},
		{"a,b\r", 0, 1},
		{"a,\"b\"\"\r\nc,d", 0, 1},
	} {
		checkRows(t, c.s, noRows, impl.Fault{Code: impl.FtQuote, Row: c.row, Col: c.col})
	}
}

func TestReadCsvShortTexts(t *testing.T) {
	for _, s := range textsOf(csvBytes, 7) {
		want, fault := exactRows(s)
		checkRows(t, s, want, fault)
	}
	for _, other := range otherBytes {
		for _, s := range textsOf([]string{",", "\"", "\n", "\r", other}, 4) {
			want, fault := exactRows(s)
			checkRows(t, s, want, fault)
		}
	}
}

func TestReadCsvEveryByte(t *testing.T) {
	for c := range 256 {
		for d := range 256 {
			one, two := string([]byte{byte(c)}), string([]byte{byte(c), byte(d)})
			for _, s := range []string{two, "\"" + two + "\"", "\"" + one + "\"" + string([]byte{byte(d)}), "a," + two + "\nb"} {
				want, fault := exactRows(s)
				checkRows(t, s, want, fault)
			}
		}
	}
}

func TestCsvRoundTrip(t *testing.T) {
	checkRoundTrip(t, nil)
	fields := append(textsOf(csvBytes, 3), otherBytes...)
	for _, field := range fields {
		for _, rows := range [][][]string{{{field}}, {{field, ""}}, {{"", field}}, {{"a", field, "b"}}, {{""}, {field}}, {{field}, {""}}, {{field}, {field, field}, {field}}} {
			checkRoundTrip(t, rows)
		}
	}
	short := textsOf(csvBytes, 2)
	for _, a := range short {
		for _, b := range short {
			checkRoundTrip(t, [][]string{{a, b}})
			checkRoundTrip(t, [][]string{{a}, {b}})
			checkRoundTrip(t, [][]string{{b, a, ""}, {""}, {"", b}})
		}
	}
	for c := range 256 {
		for d := range 256 {
			checkRoundTrip(t, [][]string{{string([]byte{byte(c), byte(d)}), "\""}})
		}
	}
	all := [][]string{}
	for i := 0; i+5 < len(short); i += 3 {
		all = append(all, short[i:i+1+i%5])
	}
	checkRoundTrip(t, all)
}

// TestCsvSecondTrip checks texts that CsvText does not write, but whose rows it must write in its own form.
func TestCsvSecondTrip(t *testing.T) {
	for _, s := range textsOf(csvBytes, 6) {
		rows, f := impl.ReadCsv(s)
		if f == (impl.Fault{}) {
			checkRoundTrip(t, rows)
		}
	}
}

func TestReadCsvLength(t *testing.T) {
	most := impl.MaxText
	for _, s := range []string{
		strings.Repeat("a", most),
		strings.Repeat("é", most/2),
		strings.Repeat("\xff", most),
		strings.Repeat(",", most),
		strings.Repeat("\n", most),
		strings.Repeat("\r\n", most/2),
		strings.Repeat("a,\"\"\"\"\r\n", most/8),
		"\"" + strings.Repeat(",", most-2) + "\"",
		strings.Repeat("\"", most),
		"\"" + strings.Repeat("\"\"", most/2-1) + "\"",
		"\"" + strings.Repeat("\n", most-1),
		strings.Repeat("a", most-1) + "\"",
		strings.Repeat("a,", most/2-1) + "a\r",
		strings.Repeat("a,", most/2-1) + "a\n",
		strings.Repeat("\n", most-1) + "\"",
		strings.Repeat("b\n", most/2-1) + ",\"",
	} {
		if len(s) != most {
			t.Error("not the longest text", len(s))
		}
		want, fault := exactRows(s)
		checkRows(t, s, want, fault)
		for _, longer := range []string{s + "a", s + ",", s + "\"", s + "\n", s + "\r", "\"" + s, s + s} {
			checkRows(t, longer, noRows, impl.Fault{Code: impl.FtLong})
		}
	}
	// The length is that in bytes, not that in runes.
	checkRows(t, strings.Repeat("é", most/2)+"a", noRows, impl.Fault{Code: 1})
	checkRows(t, strings.Repeat("\U0001f600", most/4)+"\"", noRows, impl.Fault{Code: 1})
	checkRows(t, strings.Repeat("\"", 1<<20), noRows, impl.Fault{Code: 1})
}

func TestSameRows(t *testing.T) {
	// No two of these are the same, though CsvText does not tell each from the others.
	groups := [][][]string{
		{}, {{}}, {{""}}, {{"", ""}}, {{""}, {""}}, {{}, {}}, {{}, {""}}, {{""}, {}}, {{}, {}, {}},
		{{"a"}}, {{"a", ""}}, {{"", "a"}}, {{"a", "b"}}, {{"b", "a"}}, {{"a"}, {"b"}}, {{"b"}, {"a"}}, {{"a,b"}}, {{"a\nb"}}, {{"ab"}}, {{"A"}}, {{"a "}},
		{{"a", "b"}, {"c"}}, {{"a"}, {"b", "c"}}, {{"a", "b"}, {"c", "d"}}, {{"a", "b"}, {"c", "e"}}, {{"f", "b"}, {"c", "d"}}, {{"a", "b"}, {}}, {{}, {"a", "b"}}, {{"a", "b"}, {"c"}, {""}},
		{{"\xff"}}, {{"\xfe"}}, {{"\ufffd"}}, {{"\""}}, {{"\"\""}}, {{"\r\n"}}, {{"\n"}},
	}
	for i, a := range groups {
		for j, b := range groups {
			copied := [][]string{}
			for _, row := range b {
				copied = append(copied, append([]string{}, row...))
			}
			if got := impl.SameRows(a, copied); got != (i == j) {
				t.Errorf("SameRows(%q, %q) = %v", a, copied, got)
			}
		}
	}
	for _, c := range [][2][][]string{{nil, nil}, {nil, {}}, {{}, nil}, {{nil}, {{}}}, {{{}}, {nil}}, {{nil, {"a"}}, {{}, {"a"}}}} {
		if !impl.SameRows(c[0], c[1]) {
			t.Errorf("SameRows(%q, %q) = false: a nil slice is an empty one", c[0], c[1])
		}
	}
}

func TestCsvArgumentsUnchanged(t *testing.T) {
	fields := []string{"a\"", "b,", "c", "kept", "kept"}
	row := fields[:2]
	rows := [][]string{row, fields[2:3], {"kept"}}[:2]
	text := impl.CsvText(rows)
	same := impl.SameRows(rows, rows)
	if text != "\"a\"\"\",\"b,\"\nc\n" || !same {
		t.Error(text, same)
	}
	if !slices.Equal(fields, []string{"a\"", "b,", "c", "kept", "kept"}) || !slices.Equal(rows[:3][2], []string{"kept"}) || len(rows) != 2 {
		t.Errorf("changed: %q %q", fields, rows)
	}
}

func TestCsvRowsShareNoMemory(t *testing.T) {
	s := "a,b\nc\n\"d\",\"e\"\"\",f\n\n,"
	want, _ := exactRows(s)
	first, _ := impl.ReadCsv(s)
	second, _ := impl.ReadCsv(s)
	for i := range first {
		for j := range first[i] {
			first[i][j] = "changed"
		}
		_ = append(first[i], "behind", "behind", "behind")
		for j := i + 1; j < len(first); j++ {
			if !slices.Equal(first[j], want[j]) {
				t.Errorf("row %d changed with row %d: %q", j, i, first[j])
			}
		}
	}
	_ = append(first, []string{"behind"})
	if !equalRows(second, want) {
		t.Errorf("the second result changed with the first: %q", second)
	}
	checkRows(t, s, want, impl.Fault{})
}
