package tests

import (
	"math"
	"slices"
	"testing"

	"loop.example/g00500/impl"
)

// badBins are numbers of bins that CutsOf must reject.
var badBins = []int{1, 0, -1, -2, -8, 9, 10, 16, math.MaxInt, math.MaxInt - 1, math.MinInt, 1<<32 + 2, 1<<32 + 8, -1 << 32}

// exactSorted returns what SortInts must return: each number goes behind those that are not greater.
func exactSorted(list []int) []int {
	ordered := []int{}
	for _, n := range list {
		place := 0
		for place < len(ordered) && ordered[place] <= n {
			place++
		}
		ordered = slices.Insert(ordered, place, n)
	}
	return ordered
}

// exactDistinct returns what Distinct must return.
func exactDistinct(list []int) []int {
	distinct := []int{}
	for _, n := range exactSorted(list) {
		if !slices.Contains(distinct, n) {
			distinct = append(distinct, n)
		}
	}
	return distinct
}

// exactCuts returns what CutsOf must return: a value that is not the maximum is a cut if it is the first one that at least i values do not exceed, for the i >= 1 of some k.
func exactCuts(values []int, bins int) []int {
	cuts := []int{}
	if bins < 2 || bins > 8 || len(values) < 1 || len(values) > 40 {
		return cuts
	}
	distinct := exactDistinct(values)
	for place, v := range distinct[:len(distinct)-1] {
		below := 0
		if place > 0 {
			below = countUpTo(values, distinct[place-1])
		}
		upTo, found := countUpTo(values, v), false
		for k := 1; k < bins; k++ {
			i := 0
			for (i+1)*bins <= len(values)*k {
				i++
			}
			found = found || below < i && i <= upTo
		}
		if found {
			cuts = append(cuts, v)
		}
	}
	return cuts
}

// countUpTo returns the number of values that do not exceed most.
func countUpTo(values []int, most int) int {
	count := 0
	for _, v := range values {
		if v <= most {
			count++
		}
	}
	return count
}

// exactCutsOk returns what CutsOk must return.
func exactCutsOk(cuts []int) bool {
	for i, cut := range cuts {
		if i > 6 || cut < -2147483647 || cut > 2147483647 || slices.Max(cuts[:i+1]) != cut || slices.Index(cuts, cut) != i {
			return false
		}
	}
	return true
}

// checkSorted checks SortInts and Distinct of list.
func checkSorted(t *testing.T, list []int) {
	t.Helper()
	if got, want := impl.SortInts(list), exactSorted(list); !slices.Equal(got, want) {
		t.Errorf("SortInts(%v) = %v, want %v", list, got, want)
	}
	if got, want := impl.Distinct(list), exactDistinct(list); !slices.Equal(got, want) {
		t.Errorf("Distinct(%v) = %v, want %v", list, got, want)
	}
}

// checkCuts checks CutsOf, and that there are values on both sides of each cut.
func checkCuts(t *testing.T, values []int, bins int) {
	t.Helper()
	got := impl.CutsOf(values, bins)
	if want := exactCuts(values, bins); !slices.Equal(got, want) {
		t.Errorf("CutsOf(%v, %d) = %v, want %v", values, bins, got, want)
	}
	if len(got) >= max(bins, 1) {
		t.Errorf("CutsOf(%v, %d) = %v: too many", values, bins, got)
	}
	for i, cut := range got {
		upTo := countUpTo(values, cut)
		if upTo == 0 || upTo == len(values) {
			t.Errorf("CutsOf(%v, %d) = %v: %d values up to cut %d", values, bins, got, upTo, i)
		}
		if i > 0 && upTo <= countUpTo(values, got[i-1]) {
			t.Errorf("CutsOf(%v, %d) = %v: no value ahead of cut %d", values, bins, got, i)
		}
	}
	outside := func(v int) bool { return v < -impl.MaxValue || v > impl.MaxValue }
	if !slices.ContainsFunc(values, outside) && !impl.CutsOk(got) {
		t.Errorf("CutsOf(%v, %d) = %v: not CutsOk", values, bins, got)
	}
}

// valueLists returns lists of this many values: in order, in reverse order, mixed, equal, and with few different values.
func valueLists(length int) [][]int {
	rules := []func(i int) int{
		func(i int) int { return i },
		func(i int) int { return -i },
		func(i int) int { return i*17%41 - 20 },
		func(i int) int { return (i*i*7 + 3) % 13 * 1000 },
		func(i int) int { return 5 },
		func(i int) int { return -5 },
		func(i int) int { return i % 2 },
		func(i int) int { return i % 3 * -7 },
		func(i int) int { return i * i % 5 },
		func(i int) int { return i / 8 },
		func(i int) int { return min(i, 3) },
		func(i int) int { return max(i, 30) },
		func(i int) int { return min(i, 20) },
		func(i int) int { return impl.MaxValue - i%7 },
		func(i int) int { return i%7 - impl.MaxValue },
		func(i int) int { return (i%3 - 1) * impl.MaxValue },
		func(i int) int { return math.MaxInt - i%9 },
		func(i int) int { return math.MinInt + i%9 },
		func(i int) int { return []int{math.MaxInt, math.MinInt, 0}[i%3] },
		func(i int) int { return []int{math.MaxInt, math.MinInt, -1, 1 << 32, 0}[i%5] },
		func(i int) int { return (i%11 - 5) << 40 },
	}
	lists := [][]int{}
	for _, rule := range rules {
		list := []int{}
		for i := range length {
			list = append(list, rule(i))
		}
		lists = append(lists, list)
	}
	return lists
}

// shortLists returns all lists of these numbers, up to a length.
func shortLists(numbers []int, most int) [][]int {
	lists := [][]int{{}}
	ahead := lists
	for range most {
		longer := [][]int{}
		for _, list := range ahead {
			for _, n := range numbers {
				longer = append(longer, append(slices.Clone(list), n))
			}
		}
		lists, ahead = append(lists, longer...), longer
	}
	return lists
}

func TestSortedCases(t *testing.T) {
	for _, c := range []struct{ list, ordered, distinct []int }{
		{nil, nil, nil},
		{[]int{}, []int{}, []int{}},
		{[]int{7}, []int{7}, []int{7}},
		{[]int{0}, []int{0}, []int{0}},
		{[]int{1, 2, 3}, []int{1, 2, 3}, []int{1, 2, 3}},
		{[]int{3, 2, 1}, []int{1, 2, 3}, []int{1, 2, 3}},
		{[]int{4, 4, 4}, []int{4, 4, 4}, []int{4}},
		{[]int{2, 1, 2, 1, 2}, []int{1, 1, 2, 2, 2}, []int{1, 2}},
		{[]int{0, -1, 1, 0, -10, 10}, []int{-10, -1, 0, 0, 1, 10}, []int{-10, -1, 0, 1, 10}},
		{[]int{math.MaxInt, math.MinInt}, []int{math.MinInt, math.MaxInt}, []int{math.MinInt, math.MaxInt}},
		{[]int{math.MaxInt, 0, math.MinInt, math.MaxInt, -1, math.MinInt}, []int{math.MinInt, math.MinInt, -1, 0, math.MaxInt, math.MaxInt}, []int{math.MinInt, -1, 0, math.MaxInt}},
		{[]int{1 << 32, 1, 0, 1<<32 + 1}, []int{0, 1, 1 << 32, 1<<32 + 1}, []int{0, 1, 1 << 32, 1<<32 + 1}},
	} {
		if got := impl.SortInts(c.list); !slices.Equal(got, c.ordered) {
			t.Errorf("SortInts(%v) = %v", c.list, got)
		}
		if got := impl.Distinct(c.list); !slices.Equal(got, c.distinct) {
			t.Errorf("Distinct(%v) = %v", c.list, got)
		}
	}
}

func TestSortedLists(t *testing.T) {
	for length := range 60 {
		for _, list := range valueLists(length) {
			checkSorted(t, list)
		}
	}
	for _, list := range shortLists([]int{-1, 0, 1, math.MinInt, math.MaxInt}, 5) {
		checkSorted(t, list)
	}
	list := edgeInts()
	slices.Reverse(list)
	checkSorted(t, append(list, edgeInts()...))
}

func TestLongLists(t *testing.T) {
	list, want := make([]int, 1<<20), make([]int, 1<<20)
	for i := range list {
		list[i], want[i] = len(list)-1-i, i
	}
	if !slices.Equal(impl.SortInts(list), want) || !slices.Equal(impl.Distinct(list), want) {
		t.Error("a long list in reverse order")
	}
	equal := make([]int, 1<<20)
	if !slices.Equal(impl.SortInts(equal), equal) || !slices.Equal(impl.Distinct(equal), []int{0}) {
		t.Error("a long list of equal numbers")
	}
	if len(impl.CutsOf(list, 8)) != 0 || impl.CutsOk(want) {
		t.Error("long lists are neither values nor cuts")
	}
}

func TestCutsOfCases(t *testing.T) {
	most, least := math.MaxInt, math.MinInt
	for _, c := range []struct {
		values []int
		bins   int
		want   []int
	}{
		{[]int{3}, 2, nil},
		{[]int{3}, 8, nil},
		{[]int{1, 2}, 2, []int{1}},
		{[]int{2, 1}, 2, []int{1}},
		{[]int{2, 1}, 8, []int{1}},
		{[]int{2, 2}, 2, nil},
		// The number of values is a multiple of bins, or not: i is rounded down.
		{[]int{1, 2, 3, 4}, 2, []int{2}},
		{[]int{1, 2, 3, 4, 5}, 2, []int{2}},
		{[]int{5, 4, 3, 2, 1}, 3, []int{1, 3}},
		{[]int{1, 2, 3, 4, 5}, 4, []int{1, 2, 3}},
		{[]int{1, 2, 3, 4, 5, 6, 7}, 4, []int{1, 3, 5}},
		{[]int{1, 2, 3, 4, 5, 6, 7, 8}, 8, []int{1, 2, 3, 4, 5, 6, 7}},
		{[]int{1, 2, 3, 4, 5, 6, 7, 8, 9}, 8, []int{1, 2, 3, 4, 5, 6, 7}},
		// i is 0 for the first k.
		{[]int{1, 2, 3}, 8, []int{1, 2}},
		{[]int{1, 2, 3, 4, 5, 6, 7}, 8, []int{1, 2, 3, 4, 5, 6}},
		{[]int{10, 20}, 3, []int{10}},
		// Values between two cuts are in none.
		{[]int{1, 2, 3, 4, 5, 6, 7, 8, 9, 10}, 5, []int{2, 4, 6, 8}},
		// The same cut comes up for several k.
		{[]int{1, 1, 1, 1, 2}, 4, []int{1}},
		{[]int{1, 1, 2, 2, 2, 2, 3, 3}, 8, []int{1, 2}},
		{[]int{0, 0, 0, 0, 0, 0, 0, 9}, 8, []int{0}},
		// The maximum occurs more than once, and is in the place of several cuts.
		{[]int{1, 9, 9, 9}, 4, []int{1}},
		{[]int{9, 9, 9, 9, 9, 9, 9, 1}, 8, []int{1}},
		{[]int{9, 9, 9, 9, 9, 9, 9, 1}, 2, nil},
		{[]int{1, 2, 9, 9}, 2, []int{2}},
		{[]int{1, 9, 9, 9}, 2, nil},
		{[]int{0, 0, 0, 0, 0, 0, 0, 0}, 8, nil},
		{[]int{-1, -1, -1}, 3, nil},
		{[]int{-3, -2, -2}, 3, []int{-3}},
		// Values that are no decimals are values like the others.
		{[]int{most, least}, 2, []int{least}},
		{[]int{most, least, 0}, 3, []int{least, 0}},
		{[]int{most, most, most - 1}, 3, []int{most - 1}},
		{[]int{least, least, least + 1, least + 1}, 4, []int{least}},
		{[]int{least, least}, 2, nil},
		{[]int{most, most}, 2, nil},
		{[]int{-2147483648, 2147483648, 2147483649}, 3, []int{-2147483648, 2147483648}},
		{[]int{2147483647, -2147483647}, 8, []int{-2147483647}},
	} {
		if got := impl.CutsOf(c.values, c.bins); !slices.Equal(got, c.want) {
			t.Errorf("CutsOf(%v, %d) = %v, want %v", c.values, c.bins, got, c.want)
		}
		checkCuts(t, c.values, c.bins)
	}
}

func TestCutsOfLists(t *testing.T) {
	for length := range 2 * impl.MaxRows {
		for _, values := range valueLists(length) {
			for bins := -3; bins <= 2*impl.MaxBins; bins++ {
				checkCuts(t, values, bins)
			}
		}
	}
}

func TestCutsOfShortLists(t *testing.T) {
	for _, values := range append(shortLists([]int{-1, 0, 5}, 7), shortLists([]int{1, 2, 3, 4, 5}, 5)...) {
		for bins := 1; bins <= impl.MaxBins+1; bins++ {
			checkCuts(t, values, bins)
		}
	}
}

func TestCutsOfTheMostRows(t *testing.T) {
	values := valueLists(impl.MaxRows)[0]
	if got := impl.CutsOf(values, impl.MaxBins); !slices.Equal(got, []int{4, 9, 14, 19, 24, 29, 34}) {
		t.Error("the most rows and bins", got)
	}
	if got := impl.CutsOf(values, 2); !slices.Equal(got, []int{19}) {
		t.Error("the most rows and two bins", got)
	}
	for length := impl.MaxRows + 1; length < 300; length++ {
		for bins := 2; bins <= impl.MaxBins; bins++ {
			if got := impl.CutsOf(valueLists(length)[0], bins); len(got) != 0 {
				t.Errorf("CutsOf of %d values = %v", length, got)
			}
		}
	}
}

func TestCutsOfInvalidArguments(t *testing.T) {
	for _, bins := range badBins {
		for _, values := range [][]int{nil, {}, {1}, {1, 2}, {1, 2, 3, 4, 5, 6, 7, 8, 9, 10}, valueLists(40)[0], valueLists(41)[0]} {
			if got := impl.CutsOf(values, bins); len(got) != 0 {
				t.Errorf("CutsOf(%v, %d) = %v", values, bins, got)
			}
		}
	}
	for bins := -1; bins < 11; bins++ {
		if len(impl.CutsOf(nil, bins)) != 0 || len(impl.CutsOf([]int{}, bins)) != 0 || len(impl.CutsOf(make([]int, 0, 9), bins)) != 0 {
			t.Errorf("CutsOf no values and %d bins", bins)
		}
	}
}

func TestCutsOk(t *testing.T) {
	for _, cuts := range [][]int{
		nil, {}, {0}, {5}, {-5}, {2147483647}, {-2147483647}, {2147483646}, {-2147483647, 2147483647}, {-1, 0, 1},
		{-2147483647, -2147483646}, {2147483646, 2147483647}, {1, 2, 3, 4, 5, 6, 7}, {-2147483647, -1, 0, 1, 1000, 1 << 30, 2147483647},
	} {
		if !impl.CutsOk(cuts) {
			t.Errorf("CutsOk(%v) = false", cuts)
		}
	}
	for _, cuts := range [][]int{
		{1, 2, 3, 4, 5, 6, 7, 8}, {1, 2, 3, 4, 5, 6, 7, 7}, {0, 0}, {1, 1}, {-1, -1}, {1, 0}, {0, -1}, {1, 2, 2}, {1, 1, 2}, {1, 3, 2}, {2, 1, 3}, {2, 3, 1}, {1, 2, 1},
		{2147483647, -2147483647}, {2147483647, 2147483647}, {-2147483647, -2147483647}, {2147483648}, {-2147483648}, {0, 2147483648}, {-2147483648, 0},
		{1, 2, 3, 4, 5, 6, 2147483648}, {-2147483648, 2, 3, 4, 5, 6, 7}, {math.MaxInt}, {math.MinInt}, {math.MinInt, math.MaxInt}, {math.MaxInt, math.MinInt},
		{1, 2, 3, 4, 5, 6, 6}, {1, 1, 3, 4, 5, 6, 7}, {1, 2, 3, 4, 5, 7, 6}, {7, 6, 5, 4, 3, 2, 1}, make([]int, 2), make([]int, 7), make([]int, 1<<20),
	} {
		if impl.CutsOk(cuts) {
			t.Errorf("CutsOk(%v) = true", cuts)
		}
	}
	for _, n := range decimals() {
		if !impl.CutsOk([]int{n}) {
			t.Errorf("CutsOk of %d = false", n)
		}
	}
	for _, n := range noDecimals() {
		if impl.CutsOk([]int{n}) || impl.CutsOk([]int{-2147483647, n}) || impl.CutsOk([]int{n, 2147483647}) || impl.CutsOk([]int{-1, n, 1}) {
			t.Errorf("CutsOk with %d = true", n)
		}
	}
	for length := range 50 {
		if got := impl.CutsOk(valueLists(length)[0]); got != (length <= 7) {
			t.Errorf("CutsOk of %d cuts = %v", length, got)
		}
	}
	for _, cuts := range append(shortLists([]int{-1, 0, 1, 2147483647, 2147483648}, 5), shortLists([]int{1, 2, 3, -2147483647, -2147483648}, 5)...) {
		if got := impl.CutsOk(cuts); got != exactCutsOk(cuts) {
			t.Errorf("CutsOk(%v) = %v", cuts, got)
		}
	}
}

// TestCutsArgumentsUnchanged checks that neither the elements nor the unused capacity of an argument are touched, and that no result shares its memory.
func TestCutsArgumentsUnchanged(t *testing.T) {
	whole := []int{5, 3, 9, 3, 1, 9, 2, 77, 66, 55}
	kept := slices.Clone(whole)
	for length := range len(whole) {
		for _, from := range []int{0, min(2, length)} {
			list := whole[from:length]
			results := [][]int{impl.SortInts(list), impl.Distinct(list)}
			for bins := range 10 {
				results = append(results, impl.CutsOf(list, bins))
			}
			impl.CutsOk(list)
			if !slices.Equal(whole, kept) {
				t.Fatalf("changed: %v", whole)
			}
			copies := [][]int{}
			for _, got := range results {
				copies = append(copies, slices.Clone(got))
			}
			for i, got := range results {
				got = got[:cap(got)]
				for j := range got {
					got[j] = -1000
				}
				for j := i + 1; j < len(results); j++ {
					if !slices.Equal(results[j], copies[j]) {
						t.Fatalf("result %d shares its memory with result %d", j, i)
					}
				}
			}
			if !slices.Equal(whole, kept) {
				t.Fatalf("a result shares the argument's memory: %v", whole)
			}
		}
	}
}

func TestCutsResultsAreApart(t *testing.T) {
	for _, call := range []func([]int) []int{impl.SortInts, impl.Distinct, func(list []int) []int { return impl.CutsOf(list, 8) }} {
		list := []int{1, 2, 3, 4, 5, 6}
		first, second := call(list), call(list)
		want := slices.Clone(second)
		for i := range first {
			first[i] = -9
		}
		_ = append(first, -9)
		if !slices.Equal(second, want) || !slices.Equal(call(list), want) {
			t.Error("a result changed with another one", second)
		}
		list[0], list[5] = 50, 60
		if !slices.Equal(second, want) {
			t.Error("a result changed with the argument", second)
		}
	}
}
