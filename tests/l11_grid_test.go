package tests

import (
	"math"
	"slices"
	"testing"

	"loop.example/g00500/impl"
)

// usualGrid returns a grid of two features and three rows.
func usualGrid() impl.Grid {
	return impl.Grid{Cuts: [][]int{{-5, 10}, {7}}, Bins: [][]int{{0, 2, 1}, {1, 0, 0}}}
}

// changedGrid returns usualGrid with a change.
func changedGrid(change func(*impl.Grid)) impl.Grid {
	g := usualGrid()
	change(&g)
	return g
}

// fullGrid returns a valid grid of this many features and rows, with this many cuts for each feature.
func fullGrid(cols int, rows int, cuts int) impl.Grid {
	g := impl.Grid{}
	for col := range cols {
		list, bins := []int{}, []int{}
		for k := range cuts {
			list = append(list, (k-3)*1000+col)
		}
		for row := range rows {
			bins = append(bins, (row+col)%(cuts+1))
		}
		g.Cuts, g.Bins = append(g.Cuts, list), append(g.Bins, bins)
	}
	return g
}

// copiedGrid returns a grid equal to g in memory of its own.
func copiedGrid(g impl.Grid) impl.Grid {
	copied := impl.Grid{}
	for _, list := range g.Cuts {
		copied.Cuts = append(copied.Cuts, slices.Clone(list))
	}
	for _, list := range g.Bins {
		copied.Bins = append(copied.Bins, slices.Clone(list))
	}
	return copied
}

// equalGrids compares grids without the program.
func equalGrids(a impl.Grid, b impl.Grid) bool {
	return equalLists(a.Cuts, b.Cuts) && equalLists(a.Bins, b.Bins)
}

// equalLists compares lists of lists without the program.
func equalLists(a [][]int, b [][]int) bool {
	if len(a) != len(b) {
		return false
	}
	for i := range a {
		if !slices.Equal(a[i], b[i]) {
			return false
		}
	}
	return true
}

// exactBin returns what BinOf must return.
func exactBin(cuts []int, v int) int {
	bin := 0
	for _, cut := range cuts {
		if cut < v {
			bin++
		}
	}
	return bin
}

// exactGrid returns what GridOf must return.
func exactGrid(x impl.Table, bins int) impl.Grid {
	g := impl.Grid{}
	if !exactTableOk(x) || bins < 2 || bins > 8 {
		return g
	}
	for f := range x.Names {
		values := []int{}
		for _, row := range x.Rows {
			values = append(values, row[f])
		}
		cuts, list := exactCuts(values, bins), []int{}
		for _, v := range values {
			list = append(list, exactBin(cuts, v))
		}
		g.Cuts, g.Bins = append(g.Cuts, cuts), append(g.Bins, list)
	}
	return g
}

// exactGridOk returns what GridOk must return.
func exactGridOk(g impl.Grid) bool {
	if len(g.Cuts) < 1 || len(g.Cuts) > 4 || len(g.Bins) != len(g.Cuts) {
		return false
	}
	for f, bins := range g.Bins {
		if !exactCutsOk(g.Cuts[f]) || len(bins) < 1 || len(bins) > 40 || len(bins) != len(g.Bins[0]) {
			return false
		}
		for _, bin := range bins {
			if bin < 0 || bin > len(g.Cuts[f]) {
				return false
			}
		}
	}
	return true
}

// checkBin checks BinOf, and that the bin tells the side of each of the cuts if they are in order.
func checkBin(t *testing.T, cuts []int, v int) {
	t.Helper()
	got := impl.BinOf(cuts, v)
	if want := exactBin(cuts, v); got != want {
		t.Errorf("BinOf(%v, %d) = %d, want %d", cuts, v, got, want)
	}
	if !slices.IsSorted(cuts) {
		return
	}
	for k, cut := range cuts {
		if (got <= k) != (v <= cut) {
			t.Errorf("BinOf(%v, %d) = %d: another side of cut %d", cuts, v, got, k)
		}
	}
}

// checkGrid checks GridOf, and that the bin of each value tells its side of each cut.
func checkGrid(t *testing.T, x impl.Table, bins int) {
	t.Helper()
	g := impl.GridOf(x, bins)
	if want := exactGrid(x, bins); !equalGrids(g, want) {
		t.Errorf("GridOf(%.200v, %d) = %.200v, want %.200v", x, bins, g, want)
	}
	if !impl.GridOk(g) || impl.RowsIn(g) != len(x.Rows) || len(g.Cuts) != len(x.Names) || !impl.SameGrid(g, exactGrid(x, bins)) {
		t.Errorf("GridOf(%.200v, %d) = %.200v: not a grid of the table", x, bins, g)
		return
	}
	for f, cuts := range g.Cuts {
		for i, bin := range g.Bins[f] {
			for k, cut := range cuts {
				if (bin <= k) != (x.Rows[i][f] <= cut) {
					t.Errorf("GridOf(%.200v, %d): bin %d of feature %d, row %d: another side of cut %d", x, bins, bin, f, i, k)
				}
			}
		}
	}
}

// checkNoGrid checks that GridOf returns the zero Grid.
func checkNoGrid(t *testing.T, what string, x impl.Table, bins int) {
	t.Helper()
	if g := impl.GridOf(x, bins); len(g.Cuts) != 0 || len(g.Bins) != 0 {
		t.Errorf("%s: GridOf(%.200v, %d) = %v", what, x, bins, g)
	}
}

// checkGridOk checks what GridOk returns for g.
func checkGridOk(t *testing.T, what string, g impl.Grid, want bool) {
	t.Helper()
	if got := impl.GridOk(g); got != want || exactGridOk(g) != want {
		t.Errorf("%s: GridOk(%.200v) = %v", what, g, got)
	}
}

// tableOf returns a table whose features have these values.
func tableOf(columns ...[]int) impl.Table {
	x := fullTable(len(columns), len(columns[0]))
	for f, values := range columns {
		for i, v := range values {
			x.Rows[i][f] = v
		}
	}
	return x
}

func TestBinOfCases(t *testing.T) {
	least, most := math.MinInt, math.MaxInt
	for _, c := range []struct {
		cuts []int
		v    int
		want int
	}{
		// No cuts.
		{nil, 0, 0}, {nil, 6, 0}, {[]int{}, least, 0}, {[]int{}, most, 0},
		// Below, at and above the only cut.
		{[]int{5}, 4, 0}, {[]int{5}, 5, 0}, {[]int{5}, 6, 1}, {[]int{0}, 0, 0}, {[]int{0}, -1, 0}, {[]int{0}, 1, 1},
		// Below, at, between and above several cuts.
		{[]int{1, 5, 7}, 0, 0}, {[]int{1, 5, 7}, 1, 0}, {[]int{1, 5, 7}, 2, 1}, {[]int{1, 5, 7}, 4, 1}, {[]int{1, 5, 7}, 5, 1},
		{[]int{1, 5, 7}, 6, 2}, {[]int{1, 5, 7}, 7, 2}, {[]int{1, 5, 7}, 8, 3}, {[]int{1, 5, 7}, 1000, 3},
		{[]int{-7, -5, -1}, -8, 0}, {[]int{-7, -5, -1}, -7, 0}, {[]int{-7, -5, -1}, -6, 1}, {[]int{-7, -5, -1}, -5, 1}, {[]int{-7, -5, -1}, -1, 2}, {[]int{-7, -5, -1}, 0, 3},
		{[]int{1, 2, 3, 4, 5, 6, 7}, 4, 3}, {[]int{1, 2, 3, 4, 5, 6, 7}, 7, 6}, {[]int{1, 2, 3, 4, 5, 6, 7}, 8, 7},
		// Both ends of int, as values and as cuts.
		{[]int{1, 5, 7}, least, 0}, {[]int{1, 5, 7}, most, 3}, {[]int{least}, least, 0}, {[]int{least}, least + 1, 1}, {[]int{most}, most, 0}, {[]int{most}, most - 1, 0},
		{[]int{least, most}, least, 0}, {[]int{least, most}, 0, 1}, {[]int{least, most}, most, 1}, {[]int{least, 0, most}, -1, 1}, {[]int{least, 0, most}, 1, 2},
		{[]int{-2147483647, 2147483647}, 2147483648, 2}, {[]int{-2147483647, 2147483647}, -2147483648, 0}, {[]int{0}, 1 << 32, 1}, {[]int{0}, -1 << 32, 0},
		// Cuts that are not in order, or equal.
		{[]int{7, 5, 1}, 6, 2}, {[]int{7, 5, 1}, 1, 0}, {[]int{7, 5, 1}, 7, 2}, {[]int{7, 5, 1}, 8, 3}, {[]int{5, 1, 7}, 2, 1}, {[]int{5, 7, 1}, 2, 1}, {[]int{1, 7, 5}, 6, 2}, {[]int{9, 1}, 5, 1},
		{[]int{9, 9, 1}, 5, 1}, {[]int{1, 9, 1, 9, 1}, 5, 3}, {[]int{3, 3, 3}, 3, 0}, {[]int{3, 3, 3}, 4, 3}, {[]int{3, 3, 3}, 2, 0}, {[]int{most, least, 0}, 0, 1}, {[]int{most, 0, least}, most, 2},
	} {
		if got := impl.BinOf(c.cuts, c.v); got != c.want {
			t.Errorf("BinOf(%v, %d) = %d, want %d", c.cuts, c.v, got, c.want)
		}
		checkBin(t, c.cuts, c.v)
	}
}

func TestBinOfLists(t *testing.T) {
	for length := range 2 * impl.MaxBins {
		for _, values := range valueLists(length) {
			for _, cuts := range [][]int{values, exactDistinct(values), exactCuts(values, impl.MaxBins)} {
				for _, v := range append(slices.Clone(values), math.MinInt, math.MaxInt, 0, -1, 1) {
					checkBin(t, cuts, v)
					checkBin(t, cuts, max(v, math.MinInt+1)-1)
					checkBin(t, cuts, min(v, math.MaxInt-1)+1)
				}
			}
		}
	}
	for _, cuts := range shortLists([]int{-3, -1, 0, 2, 5}, 5) {
		for v := -5; v <= 7; v++ {
			checkBin(t, cuts, v)
		}
	}
	for _, v := range edgeInts() {
		checkBin(t, []int{-2147483647, -1000, 0, 7, 1000000, 2147483647}, v)
		checkBin(t, []int{v}, v)
		checkBin(t, []int{math.MinInt, v, math.MaxInt}, v)
		checkBin(t, []int{0}, v)
	}
}

func TestBinOfManyCuts(t *testing.T) {
	up, down := make([]int, 1<<16), make([]int, 1<<16)
	for i := range up {
		up[i], down[i] = i, len(up)-1-i
	}
	for _, v := range []int{-1, 0, 1, 2, 1000, 1 << 15, 1<<16 - 1, 1 << 16, 1 << 20, math.MinInt, math.MaxInt} {
		want := min(max(v, 0), 1<<16)
		if impl.BinOf(up, v) != want || impl.BinOf(down, v) != want {
			t.Errorf("BinOf many cuts and %d = %d, %d", v, impl.BinOf(up, v), impl.BinOf(down, v))
		}
	}
}

func TestGridOfCases(t *testing.T) {
	for _, c := range []struct {
		x    impl.Table
		bins int
		want impl.Grid
	}{
		{usualTable(), 2, impl.Grid{Cuts: [][]int{{-3140}, {-1}}, Bins: [][]int{{1, 1, 0}, {1, 0, 1}}}},
		{usualTable(), 3, impl.Grid{Cuts: [][]int{{-3140, 0}, {-1, 10}}, Bins: [][]int{{2, 1, 0}, {2, 0, 1}}}},
		{usualTable(), 8, impl.Grid{Cuts: [][]int{{-3140, 0}, {-1, 10}}, Bins: [][]int{{2, 1, 0}, {2, 0, 1}}}},
		{tableOf([]int{1000, 3000, 2000, 1000}), 2, impl.Grid{Cuts: [][]int{{1000}}, Bins: [][]int{{0, 1, 1, 0}}}},
		// One row: no cuts.
		{tableOf([]int{5}), 2, impl.Grid{Cuts: [][]int{{}}, Bins: [][]int{{0}}}},
		{tableOf([]int{5}, []int{-6}, []int{0}, []int{7}), 8, impl.Grid{Cuts: [][]int{{}, {}, {}, {}}, Bins: [][]int{{0}, {0}, {0}, {0}}}},
		// A feature whose values are all equal, beside others or alone.
		{tableOf([]int{4, 4, 4}), 8, impl.Grid{Cuts: [][]int{{}}, Bins: [][]int{{0, 0, 0}}}},
		{tableOf([]int{1, 2}, []int{-9, -9}, []int{2, 1}), 2, impl.Grid{Cuts: [][]int{{1}, {}, {1}}, Bins: [][]int{{0, 1}, {0, 0}, {1, 0}}}},
		{tableOf([]int{0, 0}, []int{0, 0}), 4, impl.Grid{Cuts: [][]int{{}, {}}, Bins: [][]int{{0, 0}, {0, 0}}}},
		// Values equal to a cut belong to the bin below it, each time they occur.
		{tableOf([]int{5, 1, 1, 1, 9, 5, 9, 7}), 4, impl.Grid{Cuts: [][]int{{1, 5, 7}}, Bins: [][]int{{1, 0, 0, 0, 3, 1, 3, 2}}}},
		{tableOf([]int{1, 2, 3, 4, 5, 6, 7, 8}), 2, impl.Grid{Cuts: [][]int{{4}}, Bins: [][]int{{0, 0, 0, 0, 1, 1, 1, 1}}}},
		{tableOf([]int{8, 7, 6, 5, 4, 3, 2, 1}), 8, impl.Grid{Cuts: [][]int{{1, 2, 3, 4, 5, 6, 7}}, Bins: [][]int{{7, 6, 5, 4, 3, 2, 1, 0}}}},
		// The ends of the decimals.
		{tableOf([]int{2147483647, -2147483647}), 2, impl.Grid{Cuts: [][]int{{-2147483647}}, Bins: [][]int{{1, 0}}}},
		{tableOf([]int{2147483646, 2147483647, -2147483647, -2147483646}), 4, impl.Grid{Cuts: [][]int{{-2147483647, -2147483646, 2147483646}}, Bins: [][]int{{2, 3, 0, 1}}}},
	} {
		if got := impl.GridOf(c.x, c.bins); !equalGrids(got, c.want) {
			t.Errorf("GridOf(%v, %d) = %v, want %v", c.x, c.bins, got, c.want)
		}
		checkGrid(t, c.x, c.bins)
	}
}

func TestGridOfTables(t *testing.T) {
	for cols := 1; cols <= impl.MaxCols; cols++ {
		for rows := 1; rows <= impl.MaxRows; rows++ {
			lists := valueLists(rows)
			for bins := 2; bins <= impl.MaxBins; bins++ {
				checkGrid(t, fullTable(cols, rows), bins)
				// The last rules have values that are no decimals.
				for from := range 16 - cols {
					checkGrid(t, tableOf(lists[from:from+cols]...), bins)
				}
			}
		}
	}
	for _, values := range shortLists([]int{-1, 0, 5}, 6)[1:] {
		for bins := 2; bins <= impl.MaxBins; bins++ {
			reversed := slices.Clone(values)
			slices.Reverse(reversed)
			checkGrid(t, tableOf(values, reversed), bins)
		}
	}
	x, fault := impl.ReadTable("a,b,y\n1,0.5,3\n3,0.5,2\n2,-1,1\n1,7,0\n")
	want := impl.Grid{Cuts: [][]int{{1000}, {500}}, Bins: [][]int{{0, 1, 1, 0}, {0, 0, 0, 1}}}
	if got := impl.GridOf(x, 2); fault != (impl.Fault{}) || !equalGrids(got, want) {
		t.Error("the grid of a table that was read", got, fault)
	}
}

// TestGridOfUsesOnlyTheFeatures checks that neither the names nor the Ys count.
func TestGridOfUsesOnlyTheFeatures(t *testing.T) {
	want := impl.GridOf(usualTable(), 4)
	for _, x := range []impl.Table{
		changedTable(func(x *impl.Table) { x.Names = []string{"z", "q"} }),
		changedTable(func(x *impl.Table) { x.Target = "q" }),
		changedTable(func(x *impl.Table) { x.Ys = []int{0, 0, 0} }),
		changedTable(func(x *impl.Table) { x.Ys = []int{impl.MaxValue, -impl.MaxValue, 1} }),
	} {
		if got := impl.GridOf(x, 4); !equalGrids(got, want) {
			t.Errorf("GridOf(%v, 4) = %v, want %v", x, got, want)
		}
	}
}

func TestGridOfInvalidBins(t *testing.T) {
	for _, bins := range badBins {
		checkNoGrid(t, "bins", usualTable(), bins)
		checkNoGrid(t, "bins", tableOf([]int{5}), bins)
		checkNoGrid(t, "bins", fullTable(impl.MaxCols, impl.MaxRows), bins)
		checkNoGrid(t, "bins and table", impl.Table{}, bins)
	}
	for bins := -100; bins <= 100; bins++ {
		if bins < 2 || bins > 8 {
			checkNoGrid(t, "bins", usualTable(), bins)
		}
	}
}

func TestGridOfInvalidTables(t *testing.T) {
	changes := map[string]func(*impl.Table){
		"no names":          func(x *impl.Table) { x.Names = nil },
		"nothing but rows":  func(x *impl.Table) { x.Names, x.Target, x.Ys = nil, "", nil },
		"a name more":       func(x *impl.Table) { x.Names = append(x.Names, "c") },
		"a name less":       func(x *impl.Table) { x.Names = x.Names[:1] },
		"equal names":       func(x *impl.Table) { x.Names[1] = "a" },
		"the target's name": func(x *impl.Table) { x.Target = "b" },
		"no rows":           func(x *impl.Table) { x.Rows = nil },
		"no rows and no Ys": func(x *impl.Table) { x.Rows, x.Ys = nil, nil },
		"no Ys":             func(x *impl.Table) { x.Ys = nil },
		"a Y less":          func(x *impl.Table) { x.Ys = x.Ys[:2] },
		"a Y more":          func(x *impl.Table) { x.Ys = append(x.Ys, 0) },
		"a row more":        func(x *impl.Table) { x.Rows = append(x.Rows, []int{0, 0}) },
		"a short row":       func(x *impl.Table) { x.Rows[2] = []int{1} },
		"an empty row":      func(x *impl.Table) { x.Rows[0] = nil },
		"a long row":        func(x *impl.Table) { x.Rows[1] = []int{1, 2, 3} },
	}
	for bins := 2; bins <= impl.MaxBins; bins++ {
		checkNoGrid(t, "zero", impl.Table{}, bins)
		for what, change := range changes {
			checkNoGrid(t, what, changedTable(change), bins)
		}
		for _, name := range notNames {
			checkNoGrid(t, "name", changedTable(func(x *impl.Table) { x.Names[1] = name }), bins)
			checkNoGrid(t, "target", changedTable(func(x *impl.Table) { x.Target = name }), bins)
		}
		for _, n := range []int{2147483648, -2147483648, 1 << 32, math.MaxInt, math.MinInt} {
			checkNoGrid(t, "first number", changedTable(func(x *impl.Table) { x.Rows[0][0] = n }), bins)
			checkNoGrid(t, "last number", changedTable(func(x *impl.Table) { x.Rows[2][1] = n }), bins)
			checkNoGrid(t, "Y", changedTable(func(x *impl.Table) { x.Ys[1] = n }), bins)
		}
		for cols := range 8 {
			checkNoGrid(t, "too many rows", fullTable(cols, impl.MaxRows+1), bins)
			checkNoGrid(t, "no rows", fullTable(cols, 0), bins)
		}
		for rows := range 45 {
			checkNoGrid(t, "no features", fullTable(0, rows), bins)
			checkNoGrid(t, "too many features", fullTable(impl.MaxCols+1, rows), bins)
		}
	}
}

func TestGridOkSizes(t *testing.T) {
	for cols := range 8 {
		for rows := range 50 {
			for cuts := range 10 {
				valid := cols >= 1 && cols <= 4 && rows >= 1 && rows <= 40 && cuts <= 7
				checkGridOk(t, "size", fullGrid(cols, rows, cuts), valid)
			}
		}
	}
	large := impl.Grid{Cuts: make([][]int, 1<<20), Bins: make([][]int, 1<<20)}
	checkGridOk(t, "many features", large, false)
	checkGridOk(t, "many rows", impl.Grid{Cuts: make([][]int, 1), Bins: [][]int{make([]int, 1<<20)}}, false)
	checkGridOk(t, "many cuts", impl.Grid{Cuts: [][]int{make([]int, 1<<20)}, Bins: [][]int{{0}}}, false)
}

func TestGridOkAccepts(t *testing.T) {
	checkGridOk(t, "usual", usualGrid(), true)
	for what, change := range map[string]func(*impl.Grid){
		"no cuts in the first":  func(g *impl.Grid) { g.Cuts[0], g.Bins[0] = nil, []int{0, 0, 0} },
		"no cuts in the last":   func(g *impl.Grid) { g.Cuts[1], g.Bins[1] = []int{}, []int{0, 0, 0} },
		"no cuts":               func(g *impl.Grid) { g.Cuts, g.Bins = [][]int{nil, {}}, [][]int{{0, 0, 0}, {0, 0, 0}} },
		"all in the first bin":  func(g *impl.Grid) { g.Bins = [][]int{{0, 0, 0}, {0, 0, 0}} },
		"all in the last bin":   func(g *impl.Grid) { g.Bins = [][]int{{2, 2, 2}, {1, 1, 1}} },
		"all in one between":    func(g *impl.Grid) { g.Bins[0] = []int{1, 1, 1} },
		"equal cuts of both":    func(g *impl.Grid) { g.Cuts[1] = []int{-5, 10} },
		"the ends of decimals":  func(g *impl.Grid) { g.Cuts[0] = []int{-2147483647, 2147483647} },
		"one row":               func(g *impl.Grid) { g.Bins = [][]int{{2}, {1}} },
		"one feature":           func(g *impl.Grid) { g.Cuts, g.Bins = g.Cuts[:1], g.Bins[:1] },
		"the most cuts and bin": func(g *impl.Grid) { g.Cuts[1], g.Bins[1] = []int{1, 2, 3, 4, 5, 6, 7}, []int{7, 0, 7} },
	} {
		checkGridOk(t, what, changedGrid(change), true)
	}
	for cuts := range 8 {
		for bin := -10; bin <= 10; bin++ {
			for col := range impl.MaxCols {
				for _, row := range []int{0, 1, 20, 39} {
					g := fullGrid(impl.MaxCols, impl.MaxRows, cuts)
					g.Bins[col][row] = bin
					checkGridOk(t, "bin", g, bin >= 0 && bin <= cuts)
				}
			}
		}
	}
}

func TestGridOkRejects(t *testing.T) {
	checkGridOk(t, "zero", impl.Grid{}, false)
	for what, change := range map[string]func(*impl.Grid){
		"no features":                func(g *impl.Grid) { g.Cuts, g.Bins = [][]int{}, [][]int{} },
		"no cuts":                    func(g *impl.Grid) { g.Cuts = nil },
		"no bins":                    func(g *impl.Grid) { g.Bins = nil },
		"a feature without bins":     func(g *impl.Grid) { g.Bins = g.Bins[:1] },
		"bins without a feature":     func(g *impl.Grid) { g.Bins = append(g.Bins, []int{0, 0, 0}) },
		"cuts less":                  func(g *impl.Grid) { g.Cuts = g.Cuts[:1] },
		"cuts more":                  func(g *impl.Grid) { g.Cuts = append(g.Cuts, nil) },
		"no rows":                    func(g *impl.Grid) { g.Bins = [][]int{{}, {}} },
		"nil rows":                   func(g *impl.Grid) { g.Bins = [][]int{nil, nil} },
		"no rows in the first":       func(g *impl.Grid) { g.Bins[0] = nil },
		"no rows in the last":        func(g *impl.Grid) { g.Bins[1] = nil },
		"a row less in the first":    func(g *impl.Grid) { g.Bins[0] = g.Bins[0][:2] },
		"a row less in the last":     func(g *impl.Grid) { g.Bins[1] = g.Bins[1][:2] },
		"a row more in the first":    func(g *impl.Grid) { g.Bins[0] = append(g.Bins[0], 0) },
		"a row more in the last":     func(g *impl.Grid) { g.Bins[1] = append(g.Bins[1], 0) },
		"equal cuts":                 func(g *impl.Grid) { g.Cuts[0] = []int{10, 10} },
		"cuts in reverse order":      func(g *impl.Grid) { g.Cuts[0] = []int{10, -5} },
		"bins and cuts exchanged":    func(g *impl.Grid) { g.Bins, g.Cuts = g.Cuts, g.Bins },
		"bins of the other feature":  func(g *impl.Grid) { g.Bins[0], g.Bins[1] = g.Bins[1], g.Bins[0] },
		"cuts without their last":    func(g *impl.Grid) { g.Cuts[0] = g.Cuts[0][:1] },
		"too many cuts in the first": func(g *impl.Grid) { g.Cuts[0] = []int{1, 2, 3, 4, 5, 6, 7, 8} },
		"too many cuts in the last":  func(g *impl.Grid) { g.Cuts[1] = []int{1, 2, 3, 4, 5, 6, 7, 8} },
	} {
		checkGridOk(t, what, changedGrid(change), false)
	}
	for _, n := range []int{2147483648, -2147483648, 1 << 32, 1<<32 + 6, -1 << 32, math.MaxInt, math.MinInt} {
		checkGridOk(t, "a cut", changedGrid(func(g *impl.Grid) { g.Cuts[1] = []int{n} }), false)
		checkGridOk(t, "a bin", changedGrid(func(g *impl.Grid) { g.Bins[0][2] = n }), false)
		checkGridOk(t, "a bin", changedGrid(func(g *impl.Grid) { g.Bins[1][0] = n }), false)
	}
	for rows := 41; rows < 100; rows++ {
		checkGridOk(t, "rows", impl.Grid{Cuts: [][]int{nil}, Bins: [][]int{make([]int, rows)}}, false)
	}
}

func TestGridOkSmallGrids(t *testing.T) {
	cuts := shortLists([]int{0, 1, 2147483648}, 2)
	bins := shortLists([]int{-1, 0, 1, 2, 3}, 2)
	for _, firstCuts := range cuts {
		for _, firstBins := range bins {
			g := impl.Grid{Cuts: [][]int{firstCuts}, Bins: [][]int{firstBins}}
			checkGridOk(t, "one feature", g, exactGridOk(g))
			for _, lastCuts := range cuts {
				for _, lastBins := range bins {
					g := impl.Grid{Cuts: [][]int{firstCuts, lastCuts}, Bins: [][]int{firstBins, lastBins}}
					checkGridOk(t, "two features", g, exactGridOk(g))
				}
			}
		}
	}
}

func TestRowsIn(t *testing.T) {
	for _, c := range []struct {
		g    impl.Grid
		want int
	}{
		{impl.Grid{}, 0},
		{impl.Grid{Cuts: [][]int{}, Bins: [][]int{}}, 0},
		{impl.Grid{Cuts: [][]int{{1, 2, 3}}}, 0},
		{impl.Grid{Cuts: [][]int{{1}, {2}}, Bins: [][]int{}}, 0},
		{impl.Grid{Cuts: [][]int{{1}}, Bins: [][]int{{}}}, 0},
		{impl.Grid{Cuts: [][]int{{1}}, Bins: [][]int{nil}}, 0},
		{impl.Grid{Cuts: [][]int{{1}, {2}}, Bins: [][]int{nil, {0, 1}}}, 0},
		{impl.Grid{Cuts: [][]int{{1}, {2}}, Bins: [][]int{{0}, {0, 1}}}, 1},
		{impl.Grid{Cuts: [][]int{{1}, {2}}, Bins: [][]int{{0, 1}, nil}}, 2},
		{impl.Grid{Cuts: [][]int{nil}, Bins: [][]int{{-1, 9, math.MaxInt}}}, 3},
		{impl.Grid{Cuts: [][]int{nil}, Bins: [][]int{make([]int, 41)}}, 41},
		{impl.Grid{Cuts: [][]int{nil}, Bins: [][]int{make([]int, 2, 9)}}, 2},
		{usualGrid(), 3},
	} {
		if got := impl.RowsIn(c.g); got != c.want {
			t.Errorf("RowsIn(%v) = %d, want %d", c.g, got, c.want)
		}
	}
	for cols := 1; cols < 8; cols++ {
		for rows := range 50 {
			if got := impl.RowsIn(fullGrid(cols, rows, 3)); got != rows {
				t.Errorf("RowsIn a grid of %d rows = %d", rows, got)
			}
		}
	}
}

func TestSameGrid(t *testing.T) {
	grids := []impl.Grid{
		usualGrid(), {}, {Cuts: [][]int{{}}}, {Bins: [][]int{{}}}, {Cuts: [][]int{{}, {}}}, {Bins: [][]int{{}, {}}}, {Cuts: [][]int{{0}}}, {Bins: [][]int{{0}}},
		{Cuts: [][]int{{}}, Bins: [][]int{{}}}, {Cuts: [][]int{{0}}, Bins: [][]int{{0}}}, {Cuts: [][]int{{0, 0}}}, {Cuts: [][]int{{0}, {0}}}, {Cuts: [][]int{{0}, {}}}, {Cuts: [][]int{{}, {0}}},
		fullGrid(1, 3, 2), fullGrid(2, 3, 2), fullGrid(2, 4, 2), fullGrid(2, 3, 3), fullGrid(4, 40, 7),
	}
	for _, change := range []func(*impl.Grid){
		func(g *impl.Grid) { g.Cuts[0][0]++ },
		func(g *impl.Grid) { g.Cuts[0][1] += 1 << 32 },
		func(g *impl.Grid) { g.Cuts[1][0]-- },
		func(g *impl.Grid) { g.Cuts[0][0], g.Cuts[0][1] = g.Cuts[0][1], g.Cuts[0][0] },
		func(g *impl.Grid) { g.Cuts[0], g.Cuts[1] = g.Cuts[1], g.Cuts[0] },
		func(g *impl.Grid) { g.Cuts[0] = g.Cuts[0][:1] },
		func(g *impl.Grid) { g.Cuts[1] = append(g.Cuts[1], 8) },
		func(g *impl.Grid) { g.Cuts[1] = nil },
		func(g *impl.Grid) { g.Cuts = g.Cuts[:1] },
		func(g *impl.Grid) { g.Cuts = append(g.Cuts, nil) },
		func(g *impl.Grid) { g.Cuts = nil },
		func(g *impl.Grid) { g.Bins[0][0]++ },
		func(g *impl.Grid) { g.Bins[0][2] = -1 },
		func(g *impl.Grid) { g.Bins[1][2]++ },
		func(g *impl.Grid) { g.Bins[1][1] = 1 << 32 },
		func(g *impl.Grid) { g.Bins[0][1], g.Bins[0][2] = g.Bins[0][2], g.Bins[0][1] },
		func(g *impl.Grid) { g.Bins[0], g.Bins[1] = g.Bins[1], g.Bins[0] },
		func(g *impl.Grid) { g.Bins[0] = g.Bins[0][:2] },
		func(g *impl.Grid) { g.Bins[1] = g.Bins[1][:2] },
		func(g *impl.Grid) { g.Bins[0] = append(g.Bins[0], 0) },
		func(g *impl.Grid) { g.Bins[1] = append(g.Bins[1], 0) },
		func(g *impl.Grid) { g.Bins[1] = nil },
		func(g *impl.Grid) { g.Bins = g.Bins[:1] },
		func(g *impl.Grid) { g.Bins = append(g.Bins, nil) },
		func(g *impl.Grid) { g.Bins = nil },
		func(g *impl.Grid) { g.Cuts, g.Bins = g.Bins, g.Cuts },
		func(g *impl.Grid) { g.Cuts, g.Bins = g.Cuts[:1], g.Bins[:1] },
	} {
		grids = append(grids, changedGrid(change))
	}
	for i, a := range grids {
		for j, b := range grids {
			if got := impl.SameGrid(a, copiedGrid(b)); got != (i == j) {
				t.Errorf("SameGrid(%v, %v) = %v", a, b, got)
			}
		}
	}
	empty := impl.Grid{Cuts: [][]int{}, Bins: [][]int{}}
	if !impl.SameGrid(empty, impl.Grid{}) || !impl.SameGrid(impl.Grid{}, empty) {
		t.Error("SameGrid: a nil slice is an empty one")
	}
	if !impl.SameGrid(impl.Grid{Cuts: [][]int{nil, {}}, Bins: [][]int{{}, nil}}, impl.Grid{Cuts: [][]int{{}, nil}, Bins: [][]int{nil, {}}}) {
		t.Error("SameGrid: a nil list is an empty one")
	}
}

// TestGridArgumentsUnchanged checks that neither the elements nor the unused capacity of an argument are touched.
func TestGridArgumentsUnchanged(t *testing.T) {
	cuts := []int{7, 1, 5, 3, 66, 55}
	for length := range len(cuts) {
		impl.BinOf(cuts[:length], 4)
		impl.BinOf(cuts[length:], 4)
	}
	if !slices.Equal(cuts, []int{7, 1, 5, 3, 66, 55}) {
		t.Error("BinOf changed its cuts", cuts)
	}
	memory := []int{9, 1, 5, 3, 7, 2, 66, 55}
	rows := [][]int{memory[:2], memory[2:4], memory[4:6], {77}}
	ys := []int{4, 5, 6, 88}
	names := []string{"a", "b", "kept"}
	x := impl.Table{Names: names[:2], Target: "y", Rows: rows[:3], Ys: ys[:3]}
	kept := copiedTable(x)
	for bins := range 10 {
		impl.GridOf(x, bins)
	}
	if !equalTables(x, kept) || !slices.Equal(memory, []int{9, 1, 5, 3, 7, 2, 66, 55}) || !slices.Equal(rows[3], []int{77}) || ys[3] != 88 || names[2] != "kept" {
		t.Error("GridOf changed its table", x, memory, rows, ys, names)
	}
	numbers := []int{-5, 10, 7, 0, 2, 1, 1, 0, 0, 44}
	lists := [][]int{numbers[:2], numbers[2:3], numbers[3:6], numbers[6:9], numbers[9:]}
	g := impl.Grid{Cuts: lists[:2], Bins: lists[2:4]}
	impl.GridOk(g)
	impl.RowsIn(g)
	impl.SameGrid(g, usualGrid())
	impl.SameGrid(g, g)
	if !equalGrids(g, usualGrid()) || !slices.Equal(numbers, []int{-5, 10, 7, 0, 2, 1, 1, 0, 0, 44}) || len(lists[4]) != 1 {
		t.Error("a grid was changed", g, numbers)
	}
}

// TestGridSharesNoMemory checks that the lists of a grid are apart from each other, from the table and from other grids.
func TestGridSharesNoMemory(t *testing.T) {
	values := []int{3, 1, 2, 3, 0, -5, 8, 8}
	equal := []int{4, 4, 4, 4, 4, 4, 4, 4}
	for _, x := range []impl.Table{tableOf(values, values), tableOf(values, equal, values, equal), tableOf(equal, equal), fullTable(4, 40), fullTable(4, 1)} {
		for bins := 2; bins <= impl.MaxBins; bins++ {
			kept, want := copiedTable(x), exactGrid(x, bins)
			first, second := impl.GridOf(x, bins), impl.GridOf(x, bins)
			lists, wanted := slices.Concat(first.Cuts, first.Bins), slices.Concat(want.Cuts, want.Bins)
			for i, list := range lists {
				if !slices.Equal(list, wanted[i]) {
					t.Fatalf("list %d changed with an earlier one", i)
				}
				whole := list[:cap(list)]
				for j := range whole {
					whole[j] = -1000
				}
				for j := i + 1; j < len(lists); j++ {
					if !slices.Equal(lists[j], wanted[j]) {
						t.Fatalf("list %d shares its memory with list %d", j, i)
					}
				}
			}
			_, _ = append(first.Cuts, nil), append(first.Bins, nil)
			first.Cuts[0], first.Bins[0] = nil, nil
			if !equalGrids(second, want) || !equalTables(x, kept) {
				t.Error("the table or the second grid changed with the first", x, second)
			}
			checkGrid(t, x, bins)
		}
	}
	x := tableOf(slices.Clone(values))
	g := impl.GridOf(x, 4)
	want := copiedGrid(g)
	for i := range x.Rows {
		x.Rows[i][0] = 99
	}
	if !equalGrids(g, want) {
		t.Error("a grid changed with its table", g)
	}
}
