package tests

import (
	"regexp"
	"slices"
	"strconv"
	"strings"
	"testing"

	"loop.example/g00500/impl"
)

// nameForm is the form of a name.
var nameForm = regexp.MustCompile(`\A[a-z][a-z0-9]{0,11}\z`)

// notNames are no names, each by a rule of its own.
var notNames = []string{"", "a234567890123", "abcdefghijklmnopqrstuvwxyz", "1", "1a", "0", "A", "aB", "a_b", "a-b", "a b", " a", "a ", "a.", "a,b", "a\nb", "a\r", "a\"b", "\"", "é", "aé", "a\xff", "\xe1", "a\u0661", "a\x00", "_", "{", "`", "a{", "a`", "a/", "a:", "a\ufffd"}

// usualTable returns a table of two features and three rows.
func usualTable() impl.Table {
	return impl.Table{Names: []string{"a", "b"}, Target: "y", Rows: [][]int{{1000, 2500}, {0, -1}, {-3140, 10}}, Ys: []int{-3000, 7000, 5}}
}

// changedTable returns usualTable with a change.
func changedTable(change func(*impl.Table)) impl.Table {
	x := usualTable()
	change(&x)
	return x
}

// fullTable returns a table of this many features and rows, whose names and numbers differ.
func fullTable(cols int, rows int) impl.Table {
	x := impl.Table{Target: "target"}
	for col := range cols {
		x.Names = append(x.Names, "f"+strconv.Itoa(col))
	}
	for i := range rows {
		row := []int{}
		for col := range cols {
			row = append(row, (i-7)*1013*(col+1)-col)
		}
		x.Rows, x.Ys = append(x.Rows, row), append(x.Ys, 3-i*777)
	}
	return x
}

// exactTableOk returns what TableOk must return.
func exactTableOk(x impl.Table) bool {
	names := append(append([]string{}, x.Names...), x.Target)
	if len(names) < 2 || len(names) > 5 || len(x.Rows) < 1 || len(x.Rows) > 40 || len(x.Ys) != len(x.Rows) {
		return false
	}
	seen := map[string]bool{}
	for _, name := range names {
		if !nameForm.MatchString(name) || seen[name] {
			return false
		}
		seen[name] = true
	}
	for i, row := range x.Rows {
		if len(row) != len(x.Names) {
			return false
		}
		for _, n := range append(append([]int{}, row...), x.Ys[i]) {
			if n < -2147483647 || n > 2147483647 {
				return false
			}
		}
	}
	return true
}

// exactTableText returns what TableText must return.
func exactTableText(x impl.Table) string {
	if !exactTableOk(x) {
		return ""
	}
	text := ""
	for _, name := range x.Names {
		text += name + ","
	}
	text += x.Target + "\n"
	for i, row := range x.Rows {
		for _, n := range row {
			text += exactFix(n) + ","
		}
		text += exactFix(x.Ys[i]) + "\n"
	}
	return text
}

// exactTable returns what ReadTable must return.
func exactTable(s string) (impl.Table, impl.Fault) {
	if len(s) > 4000 {
		return impl.Table{}, impl.Fault{Code: 1}
	}
	rows, fault := exactRows(s)
	if fault.Code == 0 {
		fault = exactTableFault(rows)
	}
	if fault.Code != 0 {
		return impl.Table{}, fault
	}
	x := impl.Table{}
	for i, row := range rows {
		last := len(row) - 1
		if i == 0 {
			x.Names, x.Target = row[:last], row[last]
			continue
		}
		numbers := []int{}
		for _, field := range row {
			n, _ := exactRead(field)
			numbers = append(numbers, n)
		}
		x.Rows, x.Ys = append(x.Rows, numbers[:last]), append(x.Ys, numbers[last])
	}
	return x, impl.Fault{}
}

// exactTableFault returns the first fault of rows that CSV allows.
func exactTableFault(rows [][]string) impl.Fault {
	if len(rows) == 0 {
		return impl.Fault{Code: 3}
	}
	if len(rows[0]) < 2 || len(rows[0]) > 5 {
		return impl.Fault{Code: 7}
	}
	for col, name := range rows[0] {
		if !nameForm.MatchString(name) {
			return impl.Fault{Code: 5, Col: col}
		}
		for before := range col {
			if rows[0][before] == name {
				return impl.Fault{Code: 6, Col: col}
			}
		}
	}
	if len(rows) == 1 || len(rows) > 41 {
		return impl.Fault{Code: 8}
	}
	for i := 1; i < len(rows); i++ {
		if len(rows[i]) != len(rows[0]) {
			return impl.Fault{Code: 4, Row: i}
		}
		for col, field := range rows[i] {
			if _, ok := exactRead(field); !ok {
				return impl.Fault{Code: 9, Row: i, Col: col}
			}
		}
	}
	return impl.Fault{}
}

// equalTables compares tables without the program.
func equalTables(a impl.Table, b impl.Table) bool {
	if len(a.Rows) != len(b.Rows) || !slices.Equal(a.Names, b.Names) || a.Target != b.Target {
		return false
	}
	for i := range a.Rows {
		if !slices.Equal(a.Rows[i], b.Rows[i]) {
			return false
		}
	}
	return slices.Equal(a.Ys, b.Ys)
}

// copiedTable returns a table equal to x in memory of its own.
func copiedTable(x impl.Table) impl.Table {
	copied := impl.Table{Names: slices.Clone(x.Names), Target: x.Target, Ys: slices.Clone(x.Ys)}
	for _, row := range x.Rows {
		copied.Rows = append(copied.Rows, slices.Clone(row))
	}
	return copied
}

// checkTable checks what ReadTable returns for s, and that a table it returns is valid and round-trips.
func checkTable(t *testing.T, s string, want impl.Table, fault impl.Fault) {
	t.Helper()
	x, f := impl.ReadTable(s)
	if f != fault || !equalTables(x, want) {
		t.Errorf("ReadTable(%.100q) = %.100v, %v, want %.100v, %v", s, x, f, want, fault)
	}
	if f == (impl.Fault{}) {
		checkTableTrip(t, x)
	} else if !equalTables(x, impl.Table{}) {
		t.Errorf("ReadTable(%.100q) returns a table with its fault: %v", s, x)
	}
}

// checkExactTable compares ReadTable of any string with exactTable.
func checkExactTable(t *testing.T, s string) {
	t.Helper()
	want, fault := exactTable(s)
	checkTable(t, s, want, fault)
}

// checkTableFault checks that s has a fault.
func checkTableFault(t *testing.T, s string, code int, row int, col int) {
	t.Helper()
	checkTable(t, s, impl.Table{}, impl.Fault{Code: code, Row: row, Col: col})
	checkExactTable(t, s)
}

// checkTableTrip checks that x is valid and that ReadTable inverts TableText.
func checkTableTrip(t *testing.T, x impl.Table) {
	t.Helper()
	s := impl.TableText(x)
	if want := exactTableText(x); s != want || s == "" || !impl.TableOk(x) {
		t.Errorf("TableText(%.100v) = %.100q, want %.100q; TableOk is %v", x, s, want, impl.TableOk(x))
	}
	back, f := impl.ReadTable(s)
	if f != (impl.Fault{}) || !equalTables(back, x) || !impl.SameTable(back, x) {
		t.Errorf("ReadTable(%.100q) = %.100v, %v, want %.100v", s, back, f, x)
	}
}

// checkNoTable checks that x is not valid.
func checkNoTable(t *testing.T, what string, x impl.Table) {
	t.Helper()
	if impl.TableOk(x) || impl.TableText(x) != "" || exactTableOk(x) {
		t.Errorf("%s: TableOk(%.100v) = %v, TableText is %.100q", what, x, impl.TableOk(x), impl.TableText(x))
	}
}

func TestNameOk(t *testing.T) {
	for _, s := range []string{"a", "z", "y", "a0", "z9", "abcdefghijkl", "a23456789012", "z99999999999", "target", "x1y2", "aa"} {
		if !impl.NameOk(s) {
			t.Errorf("NameOk(%q) = false", s)
		}
	}
	for _, s := range append(notNames, strings.Repeat("a", 13), strings.Repeat("a", 12)+"\n", strings.Repeat("é", 6), strings.Repeat("a", 1<<16)) {
		if impl.NameOk(s) {
			t.Errorf("NameOk(%q) = true", s)
		}
	}
	for length := range 30 {
		for c := range 256 {
			for place := range length {
				s := []byte(strings.Repeat("q", length))
				s[place] = byte(c)
				if got := impl.NameOk(string(s)); got != nameForm.Match(s) {
					t.Errorf("NameOk(%q) = %v", s, got)
				}
			}
		}
	}
	for _, s := range textsOf([]string{"a", "z", "0", "9", "A", "-", "é", "\xff"}, 4) {
		if got := impl.NameOk(s); got != nameForm.MatchString(s) {
			t.Errorf("NameOk(%q) = %v", s, got)
		}
	}
}

func TestTablesRoundTrip(t *testing.T) {
	if impl.MaxRows != 40 {
		t.Error("MaxRows", impl.MaxRows)
	}
	checkTableTrip(t, usualTable())
	for cols := 1; cols <= impl.MaxCols; cols++ {
		for rows := 1; rows <= impl.MaxRows; rows++ {
			checkTableTrip(t, fullTable(cols, rows))
		}
	}
	for _, name := range []string{"c", "z9", "c23456789012", "zzzzzzzzzzzz"} {
		checkTableTrip(t, changedTable(func(x *impl.Table) { x.Names[0] = name }))
		checkTableTrip(t, changedTable(func(x *impl.Table) { x.Names[1] = name }))
		checkTableTrip(t, changedTable(func(x *impl.Table) { x.Target = name }))
	}
	for _, n := range []int{0, 1, -1, 10, -10, 100, -100, 120, -120, 123, -123, 1000, -1000, 1001, -1010, 1100, 999, -999, impl.MaxValue, -impl.MaxValue, impl.MaxValue - 1, 1 - impl.MaxValue} {
		checkTableTrip(t, changedTable(func(x *impl.Table) { x.Rows[0][0] = n }))
		checkTableTrip(t, changedTable(func(x *impl.Table) { x.Rows[2][1] = n }))
		checkTableTrip(t, changedTable(func(x *impl.Table) { x.Ys[0] = n }))
		checkTableTrip(t, changedTable(func(x *impl.Table) { x.Ys[2] = n }))
	}
	list := decimals()
	for i := 0; i+120 <= len(list); i += 120 {
		x := fullTable(2, impl.MaxRows)
		for row := range x.Rows {
			copy(x.Rows[row], list[i+3*row:])
			x.Ys[row] = list[i+3*row+2]
		}
		checkTableTrip(t, x)
	}
}

// TestLargestTable checks that no valid table's text is too long to be read.
func TestLargestTable(t *testing.T) {
	x := fullTable(impl.MaxCols, impl.MaxRows)
	for col := range x.Names {
		x.Names[col] = "abcdefghijk" + strconv.Itoa(col)
	}
	x.Target = "abcdefghijkl"
	for i := range x.Rows {
		for col := range x.Rows[i] {
			x.Rows[i][col] = -impl.MaxValue
		}
		x.Ys[i] = -impl.MaxValue
	}
	checkTableTrip(t, x)
	if s := impl.TableText(x); len(s) != 13*5*41 {
		t.Error("the length of the largest table", len(s))
	}
	quoted := ""
	for line := range strings.Lines(impl.TableText(x)) {
		fields := strings.ReplaceAll(strings.TrimSuffix(line, "\n"), ",", "\",\"")
		quoted += "\"" + fields + "\"\r\n"
	}
	checkTable(t, quoted, x, impl.Fault{})
}

func TestTableTextCases(t *testing.T) {
	for want, x := range map[string]impl.Table{
		"a,b,y\n1,2.5,-3\n0,-0.001,7\n-3.14,0.01,0.005\n": usualTable(),
		"a,y\n0,0\n": {Names: []string{"a"}, Target: "y", Rows: [][]int{{0}}, Ys: []int{0}},
		"y,a\n0,0\n": {Names: []string{"y"}, Target: "a", Rows: [][]int{{0}}, Ys: []int{0}},
		"p1,p2,p3,p4,p5\n2147483.647,-2147483.647,1000,-0.1,0.999\n": {Names: []string{"p1", "p2", "p3", "p4"}, Target: "p5", Rows: [][]int{{2147483647, -2147483647, 1000000, -100}}, Ys: []int{999}},
		"abcdefghijkl,z99999999999\n-0.5,100\n5,-100.05\n":           {Names: []string{"abcdefghijkl"}, Target: "z99999999999", Rows: [][]int{{-500}, {5000}}, Ys: []int{100000, -100050}},
	} {
		if got := impl.TableText(x); got != want {
			t.Errorf("TableText(%v) = %q, want %q", x, got, want)
		}
		checkTable(t, want, x, impl.Fault{})
	}
}

func TestInvalidTables(t *testing.T) {
	checkNoTable(t, "zero", impl.Table{})
	for what, change := range map[string]func(*impl.Table){
		"no names":              func(x *impl.Table) { x.Names = nil },
		"no names, empty rows":  func(x *impl.Table) { x.Names, x.Rows = nil, [][]int{{}, {}, {}} },
		"only the target":       func(x *impl.Table) { x.Names, x.Rows, x.Ys = []string{}, [][]int{{}}, []int{1} },
		"a name more":           func(x *impl.Table) { x.Names = append(x.Names, "c") },
		"a name less":           func(x *impl.Table) { x.Names = x.Names[:1] },
		"equal names":           func(x *impl.Table) { x.Names[1] = "a" },
		"the target's name 0":   func(x *impl.Table) { x.Target = "a" },
		"the target's name 1":   func(x *impl.Table) { x.Names[1] = "y" },
		"no rows":               func(x *impl.Table) { x.Rows = nil },
		"no rows and no Ys":     func(x *impl.Table) { x.Rows, x.Ys = nil, nil },
		"no Ys":                 func(x *impl.Table) { x.Ys = nil },
		"a Y less":              func(x *impl.Table) { x.Ys = x.Ys[:2] },
		"a Y more":              func(x *impl.Table) { x.Ys = append(x.Ys, 0) },
		"a row less":            func(x *impl.Table) { x.Rows = x.Rows[:2] },
		"a row more":            func(x *impl.Table) { x.Rows = append(x.Rows, []int{0, 0}) },
		"a short first row":     func(x *impl.Table) { x.Rows[0] = []int{1} },
		"a short last row":      func(x *impl.Table) { x.Rows[2] = []int{1} },
		"an empty row":          func(x *impl.Table) { x.Rows[1] = nil },
		"a long first row":      func(x *impl.Table) { x.Rows[0] = []int{1, 2, 3} },
		"a long last row":       func(x *impl.Table) { x.Rows[2] = []int{1, 2, 3} },
		"rows of other lengths": func(x *impl.Table) { x.Rows[0], x.Rows[1] = []int{1}, []int{1, 2, 3} },
	} {
		checkNoTable(t, what, changedTable(change))
	}
	for _, name := range notNames {
		checkNoTable(t, "first name", changedTable(func(x *impl.Table) { x.Names[0] = name }))
		checkNoTable(t, "last name", changedTable(func(x *impl.Table) { x.Names[1] = name }))
		checkNoTable(t, "target", changedTable(func(x *impl.Table) { x.Target = name }))
	}
	for _, n := range noDecimals() {
		checkNoTable(t, "first number", changedTable(func(x *impl.Table) { x.Rows[0][0] = n }))
		checkNoTable(t, "last number", changedTable(func(x *impl.Table) { x.Rows[2][1] = n }))
		checkNoTable(t, "first Y", changedTable(func(x *impl.Table) { x.Ys[0] = n }))
		checkNoTable(t, "last Y", changedTable(func(x *impl.Table) { x.Ys[2] = n }))
	}
	checkNoTable(t, "too many names", fullTable(impl.MaxCols+1, 3))
	checkNoTable(t, "too many rows", fullTable(2, impl.MaxRows+1))
	for cols := range 8 {
		for rows := range 45 {
			x := fullTable(cols, rows)
			valid := cols >= 1 && cols <= impl.MaxCols && rows >= 1 && rows <= impl.MaxRows
			if impl.TableOk(x) != valid || (impl.TableText(x) != "") != valid {
				t.Errorf("TableOk with %d features and %d rows = %v", cols, rows, !valid)
			}
		}
	}
	large := fullTable(2, 2)
	large.Names, large.Rows, large.Ys = make([]string, 1<<20), make([][]int, 1<<20), make([]int, 1<<20)
	checkNoTable(t, "large", large)
}

func TestEqualNamesAnywhere(t *testing.T) {
	for cols := 1; cols <= impl.MaxCols; cols++ {
		for second := range cols + 1 {
			for first := range second {
				x := fullTable(cols, 2)
				text := impl.TableText(x)
				if second == cols {
					x.Target = x.Names[first]
					checkTableFault(t, strings.Replace(text, "target", x.Names[first], 1), impl.FtTwice, 0, second)
				} else {
					checkTableFault(t, strings.Replace(text, x.Names[second], x.Names[first], 1), impl.FtTwice, 0, second)
					x.Names[second] = x.Names[first]
				}
				checkNoTable(t, "equal names", x)
			}
		}
	}
}

func TestReadTableSpellings(t *testing.T) {
	want := impl.Table{Names: []string{"a", "b"}, Target: "y", Rows: [][]int{{1500, 0}, {-20, 3000}}, Ys: []int{0, -7000}}
	for _, s := range []string{
		"a,b,y\n1.5,0,0\n-0.02,3,-7\n",
		"a,b,y\n1.5,0,0\n-0.02,3,-7",
		"a,b,y\r\n1.5,0,0\r\n-0.02,3,-7\r\n",
		"a,b,y\r\n1.5,0,0\n-0.02,3,-7\r\n",
		"a,b,y\n1.50,-0,-0.0\n-0.020,3.0,-7.00\n",
		"a,b,y\n1.500,0.0,-0.000\n-0.02,3.000,-7.000",
		"\"a\",\"b\",\"y\"\n\"1.5\",\"0\",\"0\"\n\"-0.02\",\"3\",\"-7\"\n",
		"a,\"b\",y\r\n1.5,0,\"-0\"\r\n\"-0.02\",3.00,-7",
		"\"a\",b,\"y\"\n1.5,0,0\n-0.02,3,\"-7\"",
	} {
		checkTable(t, s, want, impl.Fault{})
		checkExactTable(t, s)
		x, _ := impl.ReadTable(s)
		if text := impl.TableText(x); text != "a,b,y\n1.5,0,0\n-0.02,3,-7\n" {
			t.Errorf("TableText of ReadTable(%q) = %q", s, text)
		}
	}
	for s, n := range map[string]int{"0": 0, "-0": 0, "0.1": 100, "0.12": 120, "0.123": 123, "-0.123": -123, "9.09": 9090, "-9.009": -9009, "10": 10000, "2147483.647": 2147483647, "-2147483.647": -2147483647, "2147483": 2147483000, "-2147483.6": -2147483600} {
		checkTable(t, "a,y\n"+s+",1\n", impl.Table{Names: []string{"a"}, Target: "y", Rows: [][]int{{n}}, Ys: []int{1000}}, impl.Fault{})
		checkTable(t, "a,y\n1,"+s, impl.Table{Names: []string{"a"}, Target: "y", Rows: [][]int{{1000}}, Ys: []int{n}}, impl.Fault{})
	}
}

// TestReadTableCsvFaults checks that a fault of ReadCsv comes before every other one, in whatever row it is.
func TestReadTableCsvFaults(t *testing.T) {
	checkTableFault(t, "\"", impl.FtQuote, 0, 0)
	checkTableFault(t, "\r", impl.FtQuote, 0, 0)
	checkTableFault(t, "a\"", impl.FtQuote, 0, 0)
	checkTableFault(t, "a,\"b\n1,2\n", impl.FtQuote, 0, 1)
	checkTableFault(t, "\"a\"b,y\n1,2\n", impl.FtQuote, 0, 0)
	checkTableFault(t, "a,y\r1,2\n", impl.FtQuote, 0, 1)
	checkTableFault(t, "a,y\n1,\"2\n", impl.FtQuote, 1, 1)
	checkTableFault(t, "a,y\n1,2\r", impl.FtQuote, 1, 1)
	checkTableFault(t, "a,y\n1,2\n3,4\"\n", impl.FtQuote, 2, 1)
	for _, before := range []string{"", "\n", "a\n", "a,b,c,d,e,f\n", "A,y\n", "a,a\n", "a,y\n", "a,y\n1\n", "a,y\n\n", "a,y\nx,x\n", "a,y\n" + strings.Repeat("1,2\n", 41), "A,y\n" + strings.Repeat("1\n", 100)} {
		row := strings.Count(before, "\n")
		checkTableFault(t, before+"1,\"", impl.FtQuote, row, 1)
		checkTableFault(t, before+"\"1\"2\n3,4", impl.FtQuote, row, 0)
		checkTableFault(t, before+"1,2,3,4,5,6\r", impl.FtQuote, row, 5)
		checkTableFault(t, before+"1,2\n\n\r\rb", impl.FtQuote, row+2, 0)
	}
}

func TestReadTableLength(t *testing.T) {
	most := impl.MaxText
	faults := map[string]impl.Fault{
		strings.Repeat("\n", most):                       {Code: impl.FtCols},
		strings.Repeat("a", most):                        {Code: impl.FtCols},
		strings.Repeat(",", most):                        {Code: impl.FtCols},
		"a," + strings.Repeat("b", most-2):               {Code: impl.FtName, Col: 1},
		"a,b" + strings.Repeat("\n", most-3):             {Code: impl.FtRows},
		"a,b\n1," + strings.Repeat("2", most-6):          {Code: impl.FtValue, Row: 1, Col: 1},
		"a,b\n1" + strings.Repeat(",", most-5):           {Code: impl.FtWidth, Row: 1},
		"a,b\n" + strings.Repeat("0", most-6) + ",\"":    {Code: impl.FtQuote, Row: 1, Col: 1},
		strings.Repeat("a", most-1) + "\r":               {Code: impl.FtQuote},
		"\"" + strings.Repeat("\n", most-1):              {Code: impl.FtQuote},
		"a,b\n\"" + strings.Repeat("1", most-6) + "\"":   {Code: impl.FtWidth, Row: 1},
		"a,b\n1,\"" + strings.Repeat("0", most-8) + "\"": {Code: impl.FtValue, Row: 1, Col: 1},
	}
	for s, fault := range faults {
		if len(s) != most {
			t.Error("not the longest text", len(s))
		}
		checkTableFault(t, s, fault.Code, fault.Row, fault.Col)
		for _, longer := range []string{s + "a", s + "\n", "a" + s, "\"" + s, s + "\"", s + s} {
			checkTableFault(t, longer, impl.FtLong, 0, 0)
		}
	}
	checkTableFault(t, "a,y\n1,2"+strings.Repeat("\n", most), impl.FtLong, 0, 0)
	checkTableFault(t, strings.Repeat("é", most/2)+"a", impl.FtLong, 0, 0)
}

func TestReadTableNames(t *testing.T) {
	checkTableFault(t, "", impl.FtEmpty, 0, 0)
	for first, code := range map[string]int{
		"": impl.FtCols, "a": impl.FtCols, "A": impl.FtCols, "1": impl.FtCols, "a b": impl.FtCols, "\"\"": impl.FtCols, "\"a,b\"": impl.FtCols,
		"a,b,c,d,e,f": impl.FtCols, "a,a,a,a,a,a": impl.FtCols, ",,,,,": impl.FtCols, "A,B,C,D,E,F": impl.FtCols, "a,b,c,d,e,f,g,h": impl.FtCols,
		"a,b,c,d,e": impl.FtRows, "a,b,c,d": impl.FtRows, "a,b,c": impl.FtRows, "a,b": impl.FtRows, "a23456789012,z": impl.FtRows, "\"a\",\"b\"": impl.FtRows,
	} {
		checkTableFault(t, first+"\n", code, 0, 0)
		checkTableFault(t, first+"\r\n", code, 0, 0)
		if first != "" {
			checkTableFault(t, first, code, 0, 0)
		}
		if code == impl.FtCols {
			checkTableFault(t, first+"\n1,2\n3,4\n", code, 0, 0)
			checkTableFault(t, first+"\n"+strings.Repeat("x\n", 41), code, 0, 0)
		}
	}
	for cols := 2; cols <= impl.MaxCols+1; cols++ {
		for col := range cols {
			names, numbers := []string{"a", "b", "c", "d", "e"}[:cols], strings.Repeat(",1", cols)[1:]+"\n"
			for _, name := range notNames {
				row := slices.Clone(names)
				row[col] = exactField(name)
				first := strings.Join(row, ",") + "\n"
				checkTableFault(t, first+numbers, impl.FtName, 0, col)
				checkTableFault(t, first, impl.FtName, 0, col)
				checkTableFault(t, first+strings.Repeat(numbers, 41), impl.FtName, 0, col)
				checkTableFault(t, first+numbers+"x\n", impl.FtName, 0, col)
			}
		}
	}
	// FtName and FtTwice are found name by name.
	checkTableFault(t, "a,a,B\n1,2,3\n", impl.FtTwice, 0, 1)
	checkTableFault(t, "a,B,a\n1,2,3\n", impl.FtName, 0, 1)
	checkTableFault(t, "A,A,A\n1,2,3\n", impl.FtName, 0, 0)
	checkTableFault(t, ",\n1,2\n", impl.FtName, 0, 0)
	checkTableFault(t, "a,\n1,2\n", impl.FtName, 0, 1)
	checkTableFault(t, "a,b,b,a\n1,2,3,4\n", impl.FtTwice, 0, 2)
	checkTableFault(t, "a,b,a,b\n1,2,3,4\n", impl.FtTwice, 0, 2)
	checkTableFault(t, "a,a,a\n", impl.FtTwice, 0, 1)
	checkTableFault(t, "a,\"a\"\n1,2\n", impl.FtTwice, 0, 1)
	checkTableFault(t, "a,b,c,d,a\n1,2\n", impl.FtTwice, 0, 4)
	checkTableFault(t, "a,b,c,d,1\n1,2\n", impl.FtName, 0, 4)
	checkTableFault(t, "a,b\r,\n1,2\n", impl.FtQuote, 0, 1)
	checkTableFault(t, "a,\"b\r\"\n1,2\n", impl.FtName, 0, 1)
}

func TestReadTableRows(t *testing.T) {
	for rows := range 60 {
		for _, end := range []string{"", "\n", "\r\n"} {
			s := "a,y" + strings.Repeat("\n1,2", rows) + end
			if rows >= 1 && rows <= 40 {
				checkTable(t, s, fullRows(rows), impl.Fault{})
			} else {
				checkTableFault(t, s, impl.FtRows, 0, 0)
			}
		}
	}
	// An empty row counts, so that it is one too many or one of another width.
	valid := "a,y\n" + strings.Repeat("1,2\n", 39)
	checkTable(t, valid+"1,2", fullRows(40), impl.Fault{})
	checkTableFault(t, valid+"\n", impl.FtWidth, 40, 0)
	checkTableFault(t, valid+"1,2\n\n", impl.FtRows, 0, 0)
	checkTableFault(t, valid+"1,2\n3", impl.FtRows, 0, 0)
	checkTableFault(t, valid+"1,2\n1,2", impl.FtRows, 0, 0)
	checkTableFault(t, valid+"1,x\n", impl.FtValue, 40, 1)
	// Too many rows come before whatever the rows contain.
	checkTableFault(t, "a,y\n1\n"+strings.Repeat("1,2\n", 40), impl.FtRows, 0, 0)
	checkTableFault(t, "a,y\nx,x\n"+strings.Repeat("1,2\n", 40), impl.FtRows, 0, 0)
	checkTableFault(t, "a,y\n"+strings.Repeat("\n", 41), impl.FtRows, 0, 0)
	checkTableFault(t, "a,y\n"+strings.Repeat("\n", 40), impl.FtWidth, 1, 0)
}

// fullRows returns the table of one feature with this many rows of 1 and 2.
func fullRows(rows int) impl.Table {
	x := impl.Table{Names: []string{"a"}, Target: "y"}
	for range rows {
		x.Rows, x.Ys = append(x.Rows, []int{1000}), append(x.Ys, 2000)
	}
	return x
}

func TestReadTableWidths(t *testing.T) {
	for cols := 2; cols <= impl.MaxCols+1; cols++ {
		names := strings.Join([]string{"a", "b", "c", "d", "e"}[:cols], ",") + "\n"
		numbers := strings.Repeat(",1", cols)[1:] + "\n"
		for before := range 4 {
			for width := 1; width <= 8; width++ {
				if width == cols {
					continue
				}
				for _, field := range []string{"1", "", "x", "\"1\""} {
					row := strings.Repeat(","+field, width)[1:] + "\n"
					checkTableFault(t, names+strings.Repeat(numbers, before)+row, impl.FtWidth, before+1, 0)
					checkTableFault(t, names+strings.Repeat(numbers, before)+row+numbers+"x\n", impl.FtWidth, before+1, 0)
				}
			}
		}
	}
	checkTableFault(t, "a,y\n1,2\n\n3,4\n", impl.FtWidth, 2, 0)
	checkTableFault(t, "a,y\n\r\n3,4\n", impl.FtWidth, 1, 0)
	checkTableFault(t, "a,y\n\n", impl.FtWidth, 1, 0)
	checkTableFault(t, "a,y\n\"1,2\"\n", impl.FtWidth, 1, 0)
	checkTableFault(t, "a,y\n1,\n2,\n,,\n", impl.FtValue, 1, 1)
}

func TestReadTableValues(t *testing.T) {
	noFields := []string{"", "x", "1x", "+1", "01", "1.", ".5", "1.2345", "1.2.3", "--1", "1e3", " 1", "1 ", "-", ".", "2147483.648", "-2147483.648", "2147484", "99999999999999999999", "0x1", "1_000", "١", "\xff", "1\x00", "1,2", "1\n", "1\r", "\"1\""}
	for cols := 2; cols <= impl.MaxCols+1; cols++ {
		names := strings.Join([]string{"a", "b", "c", "d", "e"}[:cols], ",") + "\n"
		numbers := strings.Repeat(",-0.5", cols)[1:] + "\n"
		for col := range cols {
			for _, text := range noFields {
				fields := strings.Split(strings.TrimSuffix(numbers, "\n"), ",")
				fields[col] = exactField(text)
				row := strings.Join(fields, ",") + "\n"
				for before := range 3 {
					s := names + strings.Repeat(numbers, before) + row
					checkTableFault(t, s, impl.FtValue, before+1, col)
					checkTableFault(t, s+"x\n", impl.FtValue, before+1, col)
					checkTableFault(t, s+numbers+strings.ReplaceAll(numbers, "5", "x"), impl.FtValue, before+1, col)
				}
				checkTableFault(t, names+strings.Repeat(numbers, 39)+row, impl.FtValue, 40, col)
			}
		}
	}
	// The first fault counts: a value of an earlier row before the width of a later one, and within a row the width.
	checkTableFault(t, "a,y\n1,x\n3\n", impl.FtValue, 1, 1)
	checkTableFault(t, "a,y\n3\n1,x\n", impl.FtWidth, 1, 0)
	checkTableFault(t, "a,y\nx,x\n", impl.FtValue, 1, 0)
	checkTableFault(t, "a,y\nx\n", impl.FtWidth, 1, 0)
	checkTableFault(t, "a,y\nx,2,3\n", impl.FtWidth, 1, 0)
	checkTableFault(t, "a,b,y\n1,2,3\n4,x,x\nx,5,6\n", impl.FtValue, 2, 1)
	checkTableFault(t, "a,b,y\n1,2,3\n4,5\nx,5,6\n", impl.FtWidth, 2, 0)
	checkTableFault(t, "a,y\na,y\n", impl.FtValue, 1, 0)
}

func TestReadTableNearValidTexts(t *testing.T) {
	others := []string{",", "\n", "\r", "\"", "a", "b", "y", "A", "0", "1", "-", ".", " ", "\xff", "é", "\r\n", "\"\""}
	for _, s := range []string{
		"a,b,y\n1,2.5,-3\n0,-0.001,7\n",
		"a,y\r\n\"1\",\"-2.5\"\r\n0,0",
		"a1,b,c,d,y\n1,2,3,4,5\n-1,-2,-3,-4,-5.125",
		"a,abcdefghijkl\n2147483.647,-2147483.647\n",
		"\"a\",\"b\"\n0,0\n",
	} {
		checkExactTable(t, s)
		for i := range len(s) {
			checkExactTable(t, s[:i])
			checkExactTable(t, s[i:])
			checkExactTable(t, s[:i]+s[i+1:])
			for _, other := range others {
				checkExactTable(t, s[:i]+other+s[i:])
				checkExactTable(t, s[:i]+other+s[i+1:])
			}
		}
	}
}

func TestReadTableShortTexts(t *testing.T) {
	for _, s := range textsOf([]string{"a", "1", ",", "\n", "\"", "-"}, 5) {
		checkExactTable(t, s)
		checkExactTable(t, "a,b\n"+s)
		checkExactTable(t, "a,b\n1,2\n"+s)
	}
	for _, s := range textsOf([]string{"a", "b,", "1,2", "1,x", "\n", "\r\n", "A,"}, 5) {
		checkExactTable(t, s)
		checkExactTable(t, "a,b\n"+s)
	}
}

func TestReadTableEveryByte(t *testing.T) {
	for c := range 256 {
		one := string([]byte{byte(c)})
		for _, s := range []string{one + ",y\n1,2\n", "a,y" + one + "\n1,2\n", "a,y\n" + one + ",2\n", "a,y\n1,2" + one, "a,y\n1," + one + "\n3,4", "a,y" + one + "1,2\n", "a,\"y" + one + "\"\n1,2", one} {
			checkExactTable(t, s)
		}
	}
}

func TestSameTable(t *testing.T) {
	different := []impl.Table{
		usualTable(), {}, {Names: []string{"a"}}, {Names: []string{""}}, {Names: []string{"", ""}}, {Target: "y"}, {Rows: [][]int{{}}}, {Rows: [][]int{{}, {}}}, {Rows: [][]int{{0}}}, {Ys: []int{0}}, {Ys: []int{0, 0}},
	}
	for _, change := range []func(*impl.Table){
		func(x *impl.Table) { x.Names[0] = "c" },
		func(x *impl.Table) { x.Names[1] = "c" },
		func(x *impl.Table) { x.Names[0], x.Names[1] = "b", "a" },
		func(x *impl.Table) { x.Names = x.Names[:1] },
		func(x *impl.Table) { x.Names = append(x.Names, "c") },
		func(x *impl.Table) { x.Names = nil },
		func(x *impl.Table) { x.Target = "z" },
		func(x *impl.Table) { x.Target = "" },
		func(x *impl.Table) { x.Rows[0][0]++ },
		func(x *impl.Table) { x.Rows[1][1]-- },
		func(x *impl.Table) { x.Rows[2][1] = -10 },
		func(x *impl.Table) { x.Rows[2][1] += 1 << 32 },
		func(x *impl.Table) { x.Rows[0], x.Rows[1] = x.Rows[1], x.Rows[0] },
		func(x *impl.Table) { x.Rows[1], x.Rows[2] = x.Rows[2], x.Rows[1] },
		func(x *impl.Table) { x.Rows[0] = x.Rows[0][:1] },
		func(x *impl.Table) { x.Rows[2] = append(x.Rows[2], 0) },
		func(x *impl.Table) { x.Rows[1] = nil },
		func(x *impl.Table) { x.Rows = x.Rows[:2] },
		func(x *impl.Table) { x.Rows = append(x.Rows, nil) },
		func(x *impl.Table) { x.Rows = nil },
		func(x *impl.Table) { x.Ys[0]++ },
		func(x *impl.Table) { x.Ys[2]-- },
		func(x *impl.Table) { x.Ys[0], x.Ys[1] = x.Ys[1], x.Ys[0] },
		func(x *impl.Table) { x.Ys = x.Ys[:2] },
		func(x *impl.Table) { x.Ys = append(x.Ys, 0) },
		func(x *impl.Table) { x.Ys = nil },
	} {
		different = append(different, changedTable(change))
	}
	for i, a := range different {
		for j, b := range different {
			if got := impl.SameTable(a, copiedTable(b)); got != (i == j) {
				t.Errorf("SameTable(%v, %v) = %v", a, b, got)
			}
		}
	}
	empty := impl.Table{Names: []string{}, Rows: [][]int{}, Ys: []int{}}
	if !impl.SameTable(empty, impl.Table{}) || !impl.SameTable(impl.Table{}, empty) {
		t.Error("SameTable: a nil slice is an empty one")
	}
	if !impl.SameTable(impl.Table{Rows: [][]int{nil, {}}}, impl.Table{Rows: [][]int{{}, nil}}) {
		t.Error("SameTable: a nil row is an empty one")
	}
}

func TestColumn(t *testing.T) {
	ragged := impl.Table{Names: []string{"a", "b", "c"}, Rows: [][]int{{1, 2, 3}, {4}, {}, {5, 6}, nil, {7, 8, 9, 10}}}
	unnamed := impl.Table{Target: "y", Rows: [][]int{{1}}, Ys: []int{1}}
	for _, c := range []struct {
		x    impl.Table
		f    int
		want []int
	}{
		{usualTable(), 0, []int{1000, 0, -3140}},
		{usualTable(), 1, []int{2500, -1, 10}},
		{usualTable(), 2, nil},
		{usualTable(), 3, nil},
		{usualTable(), -1, nil},
		{usualTable(), -1 << 63, nil},
		{usualTable(), 1<<63 - 1, nil},
		{ragged, 0, []int{1, 4, 0, 5, 0, 7}},
		{ragged, 1, []int{2, 0, 0, 6, 0, 8}},
		{ragged, 2, []int{3, 0, 0, 0, 0, 9}},
		{ragged, 3, nil},
		{ragged, -1, nil},
		{unnamed, 0, nil},
		{unnamed, -1, nil},
		{impl.Table{}, 0, nil},
		{impl.Table{Names: []string{"a"}}, 0, nil},
		{impl.Table{Names: []string{"a"}, Ys: []int{1, 2}}, 0, nil},
		{impl.Table{Names: []string{"?", "?"}, Rows: [][]int{{1 << 62, -1 << 63}}}, 1, []int{-1 << 63}},
		{impl.Table{Names: make([]string, 9), Rows: [][]int{{8: 3}, {0}}}, 8, []int{3, 0}},
		{impl.Table{Names: []string{"a"}, Rows: make([][]int, 50)}, 0, make([]int, 50)},
	} {
		if got := impl.Column(c.x, c.f); !slices.Equal(got, c.want) {
			t.Errorf("Column(%v, %d) = %v, want %v", c.x, c.f, got, c.want)
		}
	}
	for cols := 1; cols <= impl.MaxCols; cols++ {
		x := fullTable(cols, impl.MaxRows)
		for f := range cols {
			got := impl.Column(x, f)
			if len(got) != impl.MaxRows {
				t.Fatalf("Column has %d values", len(got))
			}
			for i := range got {
				if got[i] != x.Rows[i][f] {
					t.Errorf("Column %d, row %d: %d", f, i, got[i])
				}
			}
		}
	}
}

func TestTableArgumentsUnchanged(t *testing.T) {
	names, numbers := []string{"a", "b", "kept"}, []int{1, 2, 3, 4, 5, 6}
	rows := [][]int{numbers[:2], numbers[2:4], {9}}
	x := impl.Table{Names: names[:2], Target: "y", Rows: rows[:2], Ys: numbers[3:5]}
	kept := copiedTable(x)
	impl.TableOk(x)
	text := impl.TableText(x)
	impl.SameTable(x, x)
	column := impl.Column(x, 0)
	if text != "a,b,y\n0.001,0.002,0.004\n0.003,0.004,0.005\n" || !slices.Equal(column, []int{1, 3}) {
		t.Error(text, column)
	}
	column[0], column[1] = 77, 77
	_ = append(column, 77)
	if !equalTables(x, kept) || !slices.Equal(names, []string{"a", "b", "kept"}) || !slices.Equal(numbers, []int{1, 2, 3, 4, 5, 6}) || !slices.Equal(rows[2], []int{9}) {
		t.Error("changed", x, names, numbers, rows)
	}
}

func TestTableResultsAreApart(t *testing.T) {
	s := "a,b,y\n1,2,3\n4,5,6\n7,8,9\n"
	want, _ := exactTable(s)
	first, _ := impl.ReadTable(s)
	second, _ := impl.ReadTable(s)
	for i := range first.Rows {
		for j := range first.Rows[i] {
			first.Rows[i][j] = -1
		}
		_ = append(first.Rows[i], -1, -1, -1)
		for j := i + 1; j < len(first.Rows); j++ {
			if !slices.Equal(first.Rows[j], want.Rows[j]) {
				t.Errorf("row %d changed with row %d", j, i)
			}
		}
	}
	_ = append(first.Names, "q")
	first.Names[0], first.Names[1] = "q", "q"
	if first.Target != "y" || !slices.Equal(first.Ys, want.Ys) {
		t.Error("the target changed with the names or the rows", first)
	}
	first.Ys[0] = -1
	if !equalTables(second, want) {
		t.Error("the second result changed with the first", second)
	}
	checkTable(t, s, want, impl.Fault{})
	// Neither a fault nor a table is kept for the next text.
	checkTableFault(t, "a,y\n1,x\n", impl.FtValue, 1, 1)
	checkTable(t, s, want, impl.Fault{})
	checkTableFault(t, "", impl.FtEmpty, 0, 0)
}
