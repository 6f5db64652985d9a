package tests

import (
	"math"
	"slices"
	"testing"

	"loop.example/g00500/impl"
)

// badCounts are numbers of rows that AllRows must reject.
var badCounts = []int{0, -1, -2, -39, -40, -41, 41, 42, 80, 1 << 20, 1 << 32, 1<<32 + 1, 1<<32 + 40, -1 << 32, math.MaxInt, math.MaxInt - 1, math.MinInt, math.MinInt + 1}

// exactRowsOk returns what RowsOk must return: each row is greater than all that are ahead of it.
func exactRowsOk(rows []int, n int) bool {
	least := 0
	for _, row := range rows {
		if row < least || row >= n {
			return false
		}
		least = row + 1
	}
	return true
}

// exactSide returns the rows, in order, that SplitRows must return as its first result (low), or as its second one.
func exactSide(bins []int, rows []int, b int, low bool) []int {
	side := []int{}
	for _, row := range rows {
		for place, bin := range bins {
			if place == row && (bin <= b) == low {
				side = append(side, row)
			}
		}
	}
	return side
}

// exactMerged returns what MergedRows must return.
func exactMerged(a []int, b []int) []int {
	return exactSorted(slices.Concat(a, b))
}

// checkRowsOk checks what RowsOk returns.
func checkRowsOk(t *testing.T, rows []int, n int, want bool) {
	t.Helper()
	if got := impl.RowsOk(rows, n); got != want || exactRowsOk(rows, n) != want {
		t.Errorf("RowsOk(%.200v, %d) = %v", rows, n, got)
	}
}

// checkParts checks SplitRows, and that its results are a partition, in order, of the rows that have a bin.
func checkParts(t *testing.T, bins []int, rows []int, b int) {
	t.Helper()
	low, high := impl.SplitRows(bins, rows, b)
	if wantLow, wantHigh := exactSide(bins, rows, b, true), exactSide(bins, rows, b, false); !slices.Equal(low, wantLow) || !slices.Equal(high, wantHigh) {
		t.Errorf("SplitRows(%v, %v, %d) = %v, %v, want %v, %v", bins, rows, b, low, high, wantLow, wantHigh)
	}
	known := slices.DeleteFunc(slices.Clone(rows), func(row int) bool { return row < 0 || row >= len(bins) })
	if got := impl.MergedRows(low, high); !slices.Equal(got, exactSorted(known)) {
		t.Errorf("SplitRows(%v, %v, %d) = %v, %v: not all rows once", bins, rows, b, low, high)
	}
	if impl.RowsOk(rows, len(bins)) && (!impl.RowsOk(low, len(bins)) || !impl.RowsOk(high, len(bins))) {
		t.Errorf("SplitRows(%v, %v, %d) = %v, %v: not in order", bins, rows, b, low, high)
	}
}

// checkMerged checks MergedRows in both orders of its arguments.
func checkMerged(t *testing.T, a []int, b []int) {
	t.Helper()
	want := exactMerged(a, b)
	if got := impl.MergedRows(a, b); !slices.Equal(got, want) {
		t.Errorf("MergedRows(%v, %v) = %v, want %v", a, b, got, want)
	}
	if got := impl.MergedRows(b, a); !slices.Equal(got, want) {
		t.Errorf("MergedRows(%v, %v) = %v, want %v", b, a, got, want)
	}
}

// overwrite changes all elements of list, also those in its unused capacity.
func overwrite(list []int) {
	whole := list[:cap(list)]
	for i := range whole {
		whole[i] = -1000
	}
}

func TestAllRows(t *testing.T) {
	if got := impl.AllRows(1); !slices.Equal(got, []int{0}) {
		t.Error("AllRows(1)", got)
	}
	if got := impl.AllRows(5); !slices.Equal(got, []int{0, 1, 2, 3, 4}) {
		t.Error("AllRows(5)", got)
	}
	if got := impl.AllRows(impl.MaxRows); len(got) != 40 || got[0] != 0 || got[39] != 39 {
		t.Error("AllRows(MaxRows)", got)
	}
	for n := 1; n <= 40; n++ {
		got := impl.AllRows(n)
		if len(got) != n || !impl.RowsOk(got, n) || impl.RowsOk(got, n-1) {
			t.Errorf("AllRows(%d) = %v", n, got)
		}
		for i, row := range got {
			if row != i {
				t.Errorf("AllRows(%d) = %v", n, got)
			}
		}
	}
}

func TestAllRowsInvalidCounts(t *testing.T) {
	for _, n := range badCounts {
		if got := impl.AllRows(n); len(got) != 0 {
			t.Errorf("AllRows(%d) = %v", n, got)
		}
	}
	for n := -200; n <= 200; n++ {
		if got := impl.AllRows(n); (len(got) == 0) != (n < 1 || n > 40) {
			t.Errorf("AllRows(%d) = %v", n, got)
		}
	}
	for _, n := range edgeInts() {
		if got := impl.AllRows(n); len(got) != 0 && (n < 1 || n > 40) {
			t.Errorf("AllRows(%d) = %v", n, got)
		}
	}
}

func TestRowsOkAccepts(t *testing.T) {
	for _, n := range append(edgeInts(), badCounts...) {
		checkRowsOk(t, nil, n, true)
		checkRowsOk(t, []int{}, n, true)
		checkRowsOk(t, make([]int, 0, 3), n, true)
	}
	for n := 1; n <= 2*impl.MaxRows; n++ {
		all, odd := []int{}, []int{}
		for row := range n {
			checkRowsOk(t, []int{row}, n, true)
			all = append(all, row)
			checkRowsOk(t, all, n, true)
			if row%2 == 1 {
				odd = append(odd, row)
			}
		}
		checkRowsOk(t, odd, n, true)
		checkRowsOk(t, all[n/2:], n, true)
		if n > 1 {
			checkRowsOk(t, []int{0, n - 1}, n, true)
		}
	}
	checkRowsOk(t, []int{0, 7, 1 << 32, math.MaxInt - 1}, math.MaxInt, true)
	checkRowsOk(t, []int{1 << 32}, 1<<32+1, true)
	many := make([]int, 1<<20)
	for i := range many {
		many[i] = i
	}
	checkRowsOk(t, many, len(many), true)
}

func TestRowsOkRejects(t *testing.T) {
	most, least := math.MaxInt, math.MinInt
	for _, c := range []struct {
		rows []int
		n    int
	}{
		// A row below 0.
		{[]int{-1}, 3}, {[]int{-1, 0}, 3}, {[]int{-2, -1}, 3}, {[]int{least}, 3}, {[]int{least, 0, 1}, 3}, {[]int{-1}, most}, {[]int{-1 << 32}, 3},
		// A row equal to n, and above it.
		{[]int{3}, 3}, {[]int{4}, 3}, {[]int{0, 3}, 3}, {[]int{0, 1, 2, 3}, 3}, {[]int{0, 1, 2, 100}, 3}, {[]int{most}, 3}, {[]int{most}, most}, {[]int{0, most}, most}, {[]int{1 << 32}, 3}, {[]int{1<<32 + 1}, 3}, {[]int{1}, 1},
		// Two equal rows.
		{[]int{0, 0}, 3}, {[]int{2, 2}, 3}, {[]int{0, 1, 1}, 3}, {[]int{0, 0, 1}, 3}, {[]int{0, 1, 2, 2}, 3}, {[]int{most - 1, most - 1}, most},
		// A row below the one ahead of it.
		{[]int{1, 0}, 3}, {[]int{2, 1, 0}, 3}, {[]int{0, 2, 1}, 3}, {[]int{1, 0, 2}, 3}, {[]int{0, 1, 0}, 3}, {[]int{1, 2, 0}, 3}, {[]int{most - 1, 0}, most},
		// Rows of no rows.
		{[]int{0}, 0}, {[]int{-1}, 0}, {[]int{1}, 0}, {[]int{most}, 0}, {[]int{0, 1}, 0},
		{[]int{0}, -1}, {[]int{-1}, -1}, {[]int{-2}, -1}, {[]int{1}, -1}, {[]int{0, 1}, -3}, {[]int{-3, -2}, -1},
		{[]int{0}, least}, {[]int{least}, least}, {[]int{least}, least + 1}, {[]int{most}, least}, {[]int{-1}, least}, {[]int{0, 1, 2}, least}, {[]int{0}, least + 1}, {[]int{0}, -1 << 32},
	} {
		checkRowsOk(t, c.rows, c.n, false)
	}
	for n := 2; n <= 2*impl.MaxRows; n++ {
		for i := range n {
			rows := []int{}
			for row := range n {
				rows = append(rows, row)
			}
			// The rows ahead are greater, or one is equal.
			rows[i] = rows[(i+1)%n]
			checkRowsOk(t, rows, n, false)
			rows[i] = -1
			checkRowsOk(t, rows, n, false)
			rows[i] = n
			checkRowsOk(t, rows, n, false)
		}
	}
}

func TestRowsOkShortLists(t *testing.T) {
	for _, rows := range shortLists([]int{-1, 0, 1, 2, 3}, 5) {
		for n := -2; n <= 5; n++ {
			checkRowsOk(t, rows, n, exactRowsOk(rows, n))
		}
		for _, n := range []int{math.MinInt, math.MaxInt, 1 << 32, -1 << 32} {
			checkRowsOk(t, rows, n, exactRowsOk(rows, n))
		}
	}
}

func TestSplitRowsCases(t *testing.T) {
	least, most := math.MinInt, math.MaxInt
	bins := []int{0, 2, 1, 2}
	for _, c := range []struct {
		bins, rows []int
		b          int
		low, high  []int
	}{
		// No rows, no bins, neither.
		{bins, nil, 1, nil, nil}, {bins, []int{}, 1, nil, nil}, {nil, []int{0, 1}, 1, nil, nil}, {[]int{}, []int{0}, 1, nil, nil}, {nil, nil, 0, nil, nil},
		{nil, []int{-1, 0, most, least}, most, nil, nil}, {nil, []int{-1, 0, most, least}, least, nil, nil},
		// One row.
		{[]int{4}, []int{0}, 3, nil, []int{0}}, {[]int{4}, []int{0}, 4, []int{0}, nil}, {[]int{4}, []int{0}, 5, []int{0}, nil},
		// b is below every bin, equal to one, between two, above every bin.
		{bins, []int{0, 1, 2, 3}, -1, nil, []int{0, 1, 2, 3}}, {bins, []int{0, 1, 2, 3}, 0, []int{0}, []int{1, 2, 3}}, {bins, []int{0, 1, 2, 3}, 1, []int{0, 2}, []int{1, 3}},
		{bins, []int{0, 1, 2, 3}, 2, []int{0, 1, 2, 3}, nil}, {bins, []int{0, 1, 2, 3}, 3, []int{0, 1, 2, 3}, nil}, {[]int{0, 7, 3}, []int{0, 1, 2}, 5, []int{0, 2}, []int{1}},
		{bins, []int{0, 1, 2, 3}, least, nil, []int{0, 1, 2, 3}}, {bins, []int{0, 1, 2, 3}, most, []int{0, 1, 2, 3}, nil},
		// Some of the rows.
		{bins, []int{0, 2}, 1, []int{0, 2}, nil}, {bins, []int{1, 3}, 1, nil, []int{1, 3}}, {bins, []int{2}, 0, nil, []int{2}}, {bins, []int{1, 2}, 1, []int{2}, []int{1}},
		// Rows that are not in ascending order, and rows that occur twice.
		{bins, []int{3, 2, 1, 0}, 1, []int{2, 0}, []int{3, 1}}, {bins, []int{2, 3, 0, 1}, 1, []int{2, 0}, []int{3, 1}}, {bins, []int{3, 1}, 2, []int{3, 1}, nil},
		{bins, []int{2, 2, 1, 1, 2}, 1, []int{2, 2, 2}, []int{1, 1}}, {bins, []int{3, 0, 3, 0, 1}, 1, []int{0, 0}, []int{3, 3, 1}}, {bins, []int{0, 1, 0, 1, 0, 1, 0, 1}, 0, []int{0, 0, 0, 0}, []int{1, 1, 1, 1}},
		// Rows that are not an index of bins.
		{bins, []int{0, 1, 3, 2, 9}, 1, []int{0, 2}, []int{1, 3}}, {bins, []int{-1}, 1, nil, nil}, {bins, []int{4}, 1, nil, nil}, {bins, []int{5}, most, nil, nil}, {bins, []int{-1}, most, nil, nil}, {bins, []int{4}, least, nil, nil},
		{bins, []int{least, 0, most, 1}, 1, []int{0}, []int{1}}, {bins, []int{4, 3, -1, 2, 5}, 1, []int{2}, []int{3}}, {bins, []int{-4, -3, -2, -1, 4, 5, 6, 7}, 1, nil, nil},
		{bins, []int{1 << 32, 1<<32 + 1, -1 << 32, 1}, 1, nil, []int{1}}, {bins, []int{least, least + 1, least + 2}, 5, nil, nil}, {bins, []int{most, most - 1}, 5, nil, nil},
		// Bins at both ends of int.
		{[]int{least, most, 0, -1}, []int{0, 1, 2, 3}, least, []int{0}, []int{1, 2, 3}}, {[]int{least, most, 0, -1}, []int{0, 1, 2, 3}, most, []int{0, 1, 2, 3}, nil},
		{[]int{least, most, 0, -1}, []int{0, 1, 2, 3}, most - 1, []int{0, 2, 3}, []int{1}}, {[]int{least, most, 0, -1}, []int{0, 1, 2, 3}, -1, []int{0, 3}, []int{1, 2}}, {[]int{least + 1, most}, []int{1, 0}, least, nil, []int{1, 0}},
		{[]int{1 << 32, 0}, []int{0, 1}, 1, []int{1}, []int{0}}, {[]int{-1 << 32, 0}, []int{0, 1}, -1, []int{0}, []int{1}},
	} {
		low, high := impl.SplitRows(c.bins, c.rows, c.b)
		if !slices.Equal(low, c.low) || !slices.Equal(high, c.high) {
			t.Errorf("SplitRows(%v, %v, %d) = %v, %v, want %v, %v", c.bins, c.rows, c.b, low, high, c.low, c.high)
		}
		checkParts(t, c.bins, c.rows, c.b)
	}
}

func TestSplitRowsShortLists(t *testing.T) {
	for _, bins := range shortLists([]int{-1, 0, 2}, 3) {
		for _, rows := range shortLists([]int{-1, 0, 1, 2, 3}, 4) {
			for b := -2; b <= 3; b++ {
				checkParts(t, bins, rows, b)
			}
		}
	}
}

func TestSplitRowsLists(t *testing.T) {
	for length := range 2 * impl.MaxRows {
		rows, few := []int{}, []int{}
		for row := range length {
			rows = append(rows, row)
			if row%3 != 1 {
				few = append(few, row)
			}
		}
		backward := slices.Clone(rows)
		slices.Reverse(backward)
		for _, bins := range valueLists(length) {
			for _, b := range append([]int{math.MinInt, -1, 0, 1, math.MaxInt}, bins[:min(length, 3)]...) {
				checkParts(t, bins, rows, b)
				checkParts(t, bins, few, b)
				checkParts(t, bins, backward, b)
				checkParts(t, bins, bins, b)
				checkParts(t, bins, append([]int{-1, length}, append(few, backward...)...), b)
			}
		}
	}
	for _, n := range edgeInts() {
		checkParts(t, []int{0, 2, 1, 2}, []int{0, n, 1, 2, n, 3}, 1)
		checkParts(t, []int{0, 2, 1, 2}, []int{3, 2, 1, 0}, n)
		checkParts(t, []int{n, 0, n}, []int{0, 1, 2}, 0)
		checkParts(t, []int{n, 0, n}, []int{2, 1, 0}, n)
	}
}

// TestSplitRowsOfGrids checks that a split at a cut divides all rows of a table by their values.
func TestSplitRowsOfGrids(t *testing.T) {
	for rows := 1; rows <= impl.MaxRows; rows++ {
		x := fullTable(impl.MaxCols, rows)
		g := impl.GridOf(x, impl.MaxBins)
		for f, bins := range g.Bins {
			for b, cut := range g.Cuts[f] {
				low, high := impl.SplitRows(bins, impl.AllRows(rows), b)
				if len(low) == 0 || len(high) == 0 || !slices.Equal(impl.MergedRows(high, low), impl.AllRows(rows)) {
					t.Errorf("%d rows, feature %d, cut %d: %v, %v", rows, f, b, low, high)
				}
				for _, row := range low {
					if x.Rows[row][f] > cut {
						t.Errorf("%d rows, feature %d, cut %d: row %d is low", rows, f, b, row)
					}
				}
				for _, row := range high {
					if x.Rows[row][f] <= cut {
						t.Errorf("%d rows, feature %d, cut %d: row %d is high", rows, f, b, row)
					}
				}
			}
		}
	}
}

func TestSplitManyRows(t *testing.T) {
	bins, rows := make([]int, 1<<20), make([]int, 1<<20)
	for i := range bins {
		bins[i], rows[i] = i%2, len(rows)-1-i
	}
	low, high := impl.SplitRows(bins, rows, 0)
	if len(low) != 1<<19 || len(high) != 1<<19 {
		t.Fatal("many rows", len(low), len(high))
	}
	for i := range low {
		if low[i] != 1<<20-2-2*i || high[i] != low[i]+1 {
			t.Fatal("many rows", i, low[i], high[i])
		}
	}
	merged := impl.MergedRows(low, high)
	for i, row := range merged {
		if row != i {
			t.Fatal("many merged rows", i, row)
		}
	}
	if len(merged) != 1<<20 {
		t.Error("many merged rows", len(merged))
	}
}

func TestMergedRowsCases(t *testing.T) {
	least, most := math.MinInt, math.MaxInt
	for _, c := range []struct{ a, b, want []int }{
		// Nil and empty slices.
		{nil, nil, nil}, {nil, []int{}, nil}, {[]int{}, nil, nil}, {[]int{}, []int{}, nil},
		// One slice is empty.
		{nil, []int{1, 2}, []int{1, 2}}, {[]int{1, 2}, nil, []int{1, 2}}, {[]int{}, []int{2, 1}, []int{1, 2}}, {[]int{2, 1}, []int{}, []int{1, 2}}, {[]int{5}, nil, []int{5}}, {nil, []int{5, 5}, []int{5, 5}},
		// One behind the other, and mixed.
		{[]int{0, 1}, []int{2, 3}, []int{0, 1, 2, 3}}, {[]int{2, 3}, []int{0, 1}, []int{0, 1, 2, 3}}, {[]int{0, 2}, []int{1, 3}, []int{0, 1, 2, 3}}, {[]int{0, 3}, []int{1, 2}, []int{0, 1, 2, 3}}, {[]int{7}, []int{0, 1, 9}, []int{0, 1, 7, 9}},
		// Elements that occur in both slices, or twice in one.
		{[]int{1, 2}, []int{1, 2}, []int{1, 1, 2, 2}}, {[]int{4}, []int{4}, []int{4, 4}}, {[]int{1, 1}, []int{2}, []int{1, 1, 2}}, {[]int{1}, []int{0, 0, 1}, []int{0, 0, 1, 1}}, {[]int{3, 3, 3}, []int{3, 3}, []int{3, 3, 3, 3, 3}},
		// Slices that are not in order.
		{[]int{3, 1}, []int{2}, []int{1, 2, 3}}, {[]int{2}, []int{3, 1}, []int{1, 2, 3}}, {[]int{5, 4, 3}, []int{2, 1, 0}, []int{0, 1, 2, 3, 4, 5}}, {[]int{1, 9, 1}, []int{8, 0, 8}, []int{0, 1, 1, 8, 8, 9}},
		// Negative elements, and both ends of int.
		{[]int{-1}, []int{-2}, []int{-2, -1}}, {[]int{0, -5}, []int{5, -5}, []int{-5, -5, 0, 5}}, {[]int{most}, []int{least}, []int{least, most}}, {[]int{most, least, 0}, []int{least, most, -1}, []int{least, least, -1, 0, most, most}},
		{[]int{least + 1, most - 1}, []int{most, least}, []int{least, least + 1, most - 1, most}}, {[]int{1 << 32, 0}, []int{1, -1 << 32}, []int{-1 << 32, 0, 1, 1 << 32}},
		// Rows that no table has.
		{[]int{100, 41}, []int{40}, []int{40, 41, 100}},
	} {
		if got := impl.MergedRows(c.a, c.b); !slices.Equal(got, c.want) {
			t.Errorf("MergedRows(%v, %v) = %v, want %v", c.a, c.b, got, c.want)
		}
		checkMerged(t, c.a, c.b)
	}
}

func TestMergedRowsLists(t *testing.T) {
	short := shortLists([]int{-1, 0, 1, math.MinInt, math.MaxInt}, 3)
	for _, a := range short {
		for _, b := range short {
			checkMerged(t, a, b)
		}
	}
	for length := range 60 {
		lists := valueLists(length)
		for i, list := range lists {
			checkMerged(t, list, lists[(i+1)%len(lists)])
			checkMerged(t, list, list[:length/2])
			checkMerged(t, list, nil)
		}
	}
	checkMerged(t, edgeInts(), edgeInts())
}

// TestRowsArgumentsUnchanged checks that neither the elements nor the unused capacity of an argument are touched, and that no result shares its memory.
func TestRowsArgumentsUnchanged(t *testing.T) {
	memory := []int{3, 0, 2, 1, 5, 4, 0, 77, 66, 55}
	kept := slices.Clone(memory)
	for length := range len(memory) {
		for from := range length + 1 {
			first, second := memory[from:length], memory[:from]
			for b := -1; b <= 6; b++ {
				for _, lists := range [][2][]int{{first, second}, {second, first}, {first, first}} {
					low, high := impl.SplitRows(lists[0], lists[1], b)
					merged := impl.MergedRows(lists[0], lists[1])
					impl.RowsOk(lists[0], b)
					if !slices.Equal(memory, kept) {
						t.Fatalf("changed: %v", memory)
					}
					overwrite(low)
					overwrite(high)
					overwrite(merged)
					_, _, _ = append(low, -9), append(high, -9), append(merged, -9)
					if !slices.Equal(memory, kept) {
						t.Fatalf("a result shares an argument's memory: %v", memory)
					}
				}
			}
		}
	}
}

// TestSplitRowsPartsAreApart checks that a change of one result, an append to it included, leaves the other one and the arguments.
func TestSplitRowsPartsAreApart(t *testing.T) {
	bins := []int{0, 2, 1, 2, 0, 1}
	for _, rows := range [][]int{nil, {0}, {1}, {0, 1, 2, 3, 4, 5}, {5, 4, 3, 2, 1, 0}, {0, 2, 4}, {1, 3}, {-1, 6, 0, 1}, {9, 9, 9}, {1, 1, 0, 0}} {
		for b := -1; b <= 3; b++ {
			wantLow, wantHigh := exactSide(bins, rows, b, true), exactSide(bins, rows, b, false)
			low, high := impl.SplitRows(bins, rows, b)
			for grown := low; len(grown) < 30; {
				grown = append(grown, -9)
			}
			for grown := high; len(grown) < 30; {
				grown = append(grown, -8)
			}
			if !slices.Equal(low, wantLow) || !slices.Equal(high, wantHigh) {
				t.Fatalf("SplitRows(%v, %v, %d): %v, %v after an append", bins, rows, b, low, high)
			}
			overwrite(low)
			if !slices.Equal(high, wantHigh) {
				t.Fatalf("SplitRows(%v, %v, %d): the second result changed with the first", bins, rows, b)
			}
			low, high = impl.SplitRows(bins, rows, b)
			overwrite(high)
			if !slices.Equal(low, wantLow) {
				t.Fatalf("SplitRows(%v, %v, %d): the first result changed with the second", bins, rows, b)
			}
		}
	}
}

func TestRowsResultsAreApart(t *testing.T) {
	list := []int{4, 1, 3, 1, 0, 2}
	for _, call := range []func() []int{
		func() []int { return impl.AllRows(1) },
		func() []int { return impl.AllRows(6) },
		func() []int { return impl.AllRows(impl.MaxRows) },
		func() []int { return impl.MergedRows(list, nil) },
		func() []int { return impl.MergedRows(nil, list) },
		func() []int { return impl.MergedRows(list, list) },
		func() []int { low, _ := impl.SplitRows(list, list, 2); return low },
		func() []int { _, high := impl.SplitRows(list, list, 2); return high },
		func() []int { low, _ := impl.SplitRows(list, list, 9); return low },
		func() []int { _, high := impl.SplitRows(list, list, -9); return high },
	} {
		first, second := call(), call()
		want := slices.Clone(second)
		overwrite(first)
		_ = append(first, -9)
		if !slices.Equal(second, want) || !slices.Equal(call(), want) || len(want) == 0 {
			t.Error("a result changed with another one", second)
		}
		list[0], list[5] = 50, 60
		if !slices.Equal(second, want) {
			t.Error("a result changed with an argument", second)
		}
		list[0], list[5] = 4, 2
	}
}
