package tests

import (
	"math"
	"math/big"
	"testing"

	"loop.example/g00500/impl"
)

const mostUint = math.MaxUint64

// zero, mostWide and leastWide are 0 and both ends of the valid numbers, 2^127 - 1 and its negation.
var (
	zero      = impl.Wide{}
	mostWide  = impl.Wide{High: math.MaxInt64, Low: mostUint}
	leastWide = impl.Wide{Neg: true, High: math.MaxInt64, Low: mostUint}
)

// edgeWides are valid numbers of both signs at the ends of both parts.
func edgeWides() []impl.Wide {
	parts := []uint64{
		0, 1, 2, 3, 10, 1<<31 - 1, 1 << 31, 1<<32 - 1, 1 << 32, 1<<32 + 1, 1<<62 - 1, 1 << 62, 0x5555555555555555, math.MaxInt64 - 1, math.MaxInt64,
		1 << 63, 1<<63 + 1, 0xAAAAAAAAAAAAAAAA, mostUint - 1, mostUint,
	}
	list := []impl.Wide{}
	for _, high := range parts {
		for _, low := range parts {
			if high < 1<<63 {
				list = append(list, impl.Wide{High: high, Low: low})
				if high != 0 || low != 0 {
					list = append(list, impl.Wide{Neg: true, High: high, Low: low})
				}
			}
		}
	}
	return list
}

// invalidWides are a negated 0 and numbers that are too large, also where their High or their Low alone would be a small or a zero one.
func invalidWides() []impl.Wide {
	list := []impl.Wide{{Neg: true}}
	for _, high := range []uint64{1 << 63, 1<<63 + 1, 0xAAAAAAAAAAAAAAAA, mostUint - 1, mostUint} {
		for _, low := range []uint64{0, 1, math.MaxInt64, 1 << 63, mostUint} {
			list = append(list, impl.Wide{High: high, Low: low}, impl.Wide{Neg: true, High: high, Low: low})
		}
	}
	return list
}

// exactWide returns the number that w denotes.
func exactWide(w impl.Wide) *big.Int {
	n := new(big.Int).SetUint64(w.High)
	n.Lsh(n, 64).Add(n, new(big.Int).SetUint64(w.Low))
	if w.Neg {
		n.Neg(n)
	}
	return n
}

// wideOfExact returns the valid Wide of n, and true; the zero Wide and false if there is none.
func wideOfExact(n *big.Int) (impl.Wide, bool) {
	if n.BitLen() > 127 {
		return zero, false
	}
	size := new(big.Int).Abs(n)
	low := new(big.Int).And(size, new(big.Int).SetUint64(mostUint))
	return impl.Wide{Neg: n.Sign() < 0, High: size.Rsh(size, 64).Uint64(), Low: low.Uint64()}, true
}

// checkWide compares a result with the exact one, or with the zero Wide and false if that is too large.
func checkWide(t *testing.T, call string, a any, b any, exact *big.Int, w impl.Wide, ok bool) {
	t.Helper()
	want, wantOk := wideOfExact(exact)
	if w != want || ok != wantOk {
		t.Errorf("%s(%v, %v) = %v, %v, want %v, %v", call, a, b, w, ok, want, wantOk)
	}
}

func TestWideOk(t *testing.T) {
	for _, w := range edgeWides() {
		if !impl.WideOk(w) {
			t.Errorf("WideOk(%v) = false", w)
		}
	}
	for _, w := range invalidWides() {
		if impl.WideOk(w) {
			t.Errorf("WideOk(%v) = true", w)
		}
	}
}

func TestWidesOfIntegers(t *testing.T) {
	for _, n := range append(edgeInts(), checkInts()...) {
		w := impl.WideOf(n)
		checkWide(t, "WideOf", n, nil, big.NewInt(int64(n)), w, true)
		if back, ok := impl.IntOf(w); back != n || !ok {
			t.Errorf("IntOf(%v) = %d, %v, want %d", w, back, ok, n)
		}
	}
	for _, c := range []struct {
		n int
		w impl.Wide
	}{
		{0, zero}, {7, impl.Wide{Low: 7}}, {-7, impl.Wide{Neg: true, Low: 7}}, {math.MaxInt, impl.Wide{Low: math.MaxInt64}},
		{-math.MaxInt, impl.Wide{Neg: true, Low: math.MaxInt64}}, {math.MinInt, impl.Wide{Neg: true, Low: 1 << 63}},
	} {
		if w := impl.WideOf(c.n); w != c.w {
			t.Errorf("WideOf(%d) = %v, want %v", c.n, w, c.w)
		}
	}
}

func TestIntegersOfWides(t *testing.T) {
	for _, w := range edgeWides() {
		n, ok := impl.IntOf(w)
		if exact := exactWide(w); exact.IsInt64() {
			if n != int(exact.Int64()) || !ok {
				t.Errorf("IntOf(%v) = %d, %v, want %v", w, n, ok, exact)
			}
		} else if n != 0 || ok {
			t.Errorf("IntOf(%v) = %d, %v, want 0, false", w, n, ok)
		}
	}
	for _, w := range append(invalidWides(), []impl.Wide{
		{Low: 1 << 63}, {Neg: true, Low: 1<<63 + 1}, {Low: mostUint}, {Neg: true, Low: mostUint}, {High: 1}, {Neg: true, High: 1},
		{High: 1, Low: 5}, {Neg: true, High: 1, Low: 5}, {Neg: true, High: 1, Low: 1 << 63}, mostWide, leastWide,
	}...) {
		if n, ok := impl.IntOf(w); n != 0 || ok {
			t.Errorf("IntOf(%v) = %d, %v, want 0, false", w, n, ok)
		}
	}
}

func TestMulWideIsExact(t *testing.T) {
	for _, a := range checkInts() {
		for _, b := range checkInts() {
			exact := new(big.Int).Mul(big.NewInt(int64(a)), big.NewInt(int64(b)))
			checkWide(t, "MulWide", a, b, exact, impl.MulWide(a, b), true)
		}
	}
	most, least := math.MaxInt, math.MinInt
	for _, c := range []struct {
		a, b int
		w    impl.Wide
	}{
		{0, 0, zero}, {0, -1, zero}, {-1, 0, zero}, {least, 0, zero}, {0, least, zero}, {0, most, zero},
		{least, least, impl.Wide{High: 1 << 62}}, {least, -1, impl.Wide{Low: 1 << 63}}, {1, least, impl.Wide{Neg: true, Low: 1 << 63}},
		{most, least, impl.Wide{Neg: true, High: 1<<62 - 1, Low: 1 << 63}}, {least, most, impl.Wide{Neg: true, High: 1<<62 - 1, Low: 1 << 63}},
		{most, most, impl.Wide{High: 1<<62 - 1, Low: 1}}, {most, -most, impl.Wide{Neg: true, High: 1<<62 - 1, Low: 1}},
		{1 << 32, 1 << 32, impl.Wide{High: 1}}, {-1 << 32, 1 << 32, impl.Wide{Neg: true, High: 1}}, {-3, -5, impl.Wide{Low: 15}},
	} {
		if w := impl.MulWide(c.a, c.b); w != c.w {
			t.Errorf("MulWide(%d, %d) = %v, want %v", c.a, c.b, w, c.w)
		}
	}
}

func TestNegWide(t *testing.T) {
	for _, w := range edgeWides() {
		exact := exactWide(w)
		checkWide(t, "NegWide", w, nil, exact.Neg(exact), impl.NegWide(w), true)
	}
	for _, w := range invalidWides() {
		if back := impl.NegWide(w); back != w {
			t.Errorf("NegWide(%v) = %v, want it unchanged", w, back)
		}
	}
	if impl.NegWide(zero) != zero || impl.NegWide(mostWide) != leastWide || impl.NegWide(leastWide) != mostWide {
		t.Error("NegWide of 0 or of an end is wrong")
	}
}

func TestAddWideIsExact(t *testing.T) {
	for _, a := range edgeWides() {
		for _, b := range edgeWides() {
			w, ok := impl.AddWide(a, b)
			checkWide(t, "AddWide", a, b, new(big.Int).Add(exactWide(a), exactWide(b)), w, ok)
		}
	}
}

type wideSum struct {
	a, b, sum impl.Wide
	ok        bool
}

func TestAddWideAtTheEnds(t *testing.T) {
	one, minusOne := impl.WideOf(1), impl.WideOf(-1)
	for _, c := range []wideSum{
		{zero, zero, zero, true},
		{one, minusOne, zero, true},
		{minusOne, one, zero, true},
		{mostWide, leastWide, zero, true},
		{leastWide, mostWide, zero, true},
		{impl.Wide{High: 5}, impl.Wide{Neg: true, High: 5}, zero, true},
		{impl.Wide{Low: mostUint}, one, impl.Wide{High: 1}, true},
		{impl.Wide{Low: mostUint}, impl.Wide{Low: mostUint}, impl.Wide{High: 1, Low: mostUint - 1}, true},
		{impl.Wide{Neg: true, Low: mostUint}, minusOne, impl.Wide{Neg: true, High: 1}, true},
		{impl.Wide{High: 1}, minusOne, impl.Wide{Low: mostUint}, true},
		{minusOne, impl.Wide{High: 1}, impl.Wide{Low: mostUint}, true},
		{impl.Wide{Neg: true, High: 1}, one, impl.Wide{Neg: true, Low: mostUint}, true},
		{impl.Wide{High: 2, Low: 3}, impl.Wide{Neg: true, High: 2, Low: 4}, minusOne, true},
		{impl.Wide{High: 3}, impl.Wide{Neg: true, High: 2, Low: mostUint}, one, true},
		{impl.Wide{High: math.MaxInt64, Low: mostUint - 1}, one, mostWide, true},
		{impl.Wide{High: 1 << 62}, impl.Wide{High: 1<<62 - 1, Low: mostUint}, mostWide, true},
		{impl.Wide{High: 1 << 62}, impl.Wide{High: 1 << 62}, zero, false},
		{impl.Wide{Neg: true, High: 1 << 62}, impl.Wide{Neg: true, High: 1<<62 - 1, Low: mostUint}, leastWide, true},
		{impl.Wide{Neg: true, High: 1 << 62}, impl.Wide{Neg: true, High: 1 << 62}, zero, false},
		{mostWide, one, zero, false},
		{one, mostWide, zero, false},
		{leastWide, minusOne, zero, false},
		{minusOne, leastWide, zero, false},
		{mostWide, mostWide, zero, false},
		{leastWide, leastWide, zero, false},
		{mostWide, zero, mostWide, true},
		{zero, leastWide, leastWide, true},
		{mostWide, minusOne, impl.Wide{High: math.MaxInt64, Low: mostUint - 1}, true},
	} {
		if w, ok := impl.AddWide(c.a, c.b); w != c.sum || ok != c.ok {
			t.Errorf("AddWide(%v, %v) = %v, %v, want %v, %v", c.a, c.b, w, ok, c.sum, c.ok)
		}
	}
}

func TestAddWideOfInvalidNumbers(t *testing.T) {
	for _, bad := range invalidWides() {
		// The sum with some of these would be valid.
		for _, other := range append(edgeWides(), invalidWides()...) {
			if w, ok := impl.AddWide(bad, other); w != zero || ok {
				t.Errorf("AddWide(%v, %v) = %v, %v, want the zero Wide, false", bad, other, w, ok)
			}
			if w, ok := impl.AddWide(other, bad); w != zero || ok {
				t.Errorf("AddWide(%v, %v) = %v, %v, want the zero Wide, false", other, bad, w, ok)
			}
		}
	}
}

func TestCompareWide(t *testing.T) {
	// Validity does not matter here, so a negated 0 and numbers up to 2^128 - 1 are among them.
	list := append(edgeWides(), invalidWides()...)
	for _, a := range list {
		for _, b := range list {
			if n, want := impl.CompareWide(a, b), exactWide(a).Cmp(exactWide(b)); n != want {
				t.Errorf("CompareWide(%v, %v) = %d, want %d", a, b, n, want)
			}
		}
	}
	for _, c := range []struct {
		a, b impl.Wide
		want int
	}{
		{zero, impl.Wide{Neg: true}, 0}, {impl.Wide{Neg: true}, zero, 0}, {impl.Wide{Neg: true}, impl.Wide{Neg: true}, 0},
		{impl.Wide{Neg: true}, impl.WideOf(-1), 1}, {impl.WideOf(-1), impl.Wide{Neg: true}, -1}, {impl.Wide{Neg: true}, impl.WideOf(1), -1},
		{impl.Wide{High: 1 << 63}, mostWide, 1}, {impl.Wide{Neg: true, High: 1 << 63}, leastWide, -1},
		{impl.Wide{High: mostUint}, impl.Wide{High: mostUint, Low: 1}, -1}, {impl.Wide{High: mostUint, Low: mostUint}, impl.Wide{Neg: true, High: mostUint, Low: mostUint}, 1},
		{impl.Wide{High: 1}, impl.Wide{Low: mostUint}, 1}, {impl.Wide{Neg: true, High: 1}, impl.Wide{Neg: true, Low: mostUint}, -1},
	} {
		if n := impl.CompareWide(c.a, c.b); n != c.want {
			t.Errorf("CompareWide(%v, %v) = %d, want %d", c.a, c.b, n, c.want)
		}
	}
}

func TestScaleWideIsExact(t *testing.T) {
	for _, w := range edgeWides() {
		for _, k := range checkInts() {
			product, ok := impl.ScaleWide(w, k)
			checkWide(t, "ScaleWide", w, k, new(big.Int).Mul(exactWide(w), big.NewInt(int64(k))), product, ok)
		}
	}
}

// TestScaleWideNearTheEnd scales the last number that does not overflow and the first one that does.
func TestScaleWideNearTheEnd(t *testing.T) {
	for _, k := range checkInts() {
		if k == 0 {
			continue
		}
		quotient := new(big.Int).Quo(exactWide(mostWide), big.NewInt(int64(k)))
		for step := int64(-2); step <= 2; step++ {
			for _, sign := range []int64{1, -1} {
				n := new(big.Int).Add(quotient, big.NewInt(step))
				n.Mul(n, big.NewInt(sign))
				if w, valid := wideOfExact(n); valid {
					product, ok := impl.ScaleWide(w, k)
					checkWide(t, "ScaleWide", w, k, new(big.Int).Mul(n, big.NewInt(int64(k))), product, ok)
				}
			}
		}
	}
}

func TestScaleWideAtTheEnds(t *testing.T) {
	least := math.MinInt
	for _, c := range []struct {
		w       impl.Wide
		k       int
		product impl.Wide
		ok      bool
	}{
		{zero, -1, zero, true},
		{zero, least, zero, true},
		{mostWide, 0, zero, true},
		{leastWide, 0, zero, true},
		{impl.WideOf(-7), 0, zero, true},
		{mostWide, 1, mostWide, true},
		{mostWide, -1, leastWide, true},
		{leastWide, -1, mostWide, true},
		{mostWide, 2, zero, false},
		{leastWide, -2, zero, false},
		{impl.Wide{High: 1<<62 - 1, Low: mostUint}, 2, impl.Wide{High: math.MaxInt64, Low: mostUint - 1}, true},
		{impl.Wide{High: 1 << 62}, 2, zero, false},
		{impl.Wide{High: 1 << 62}, -2, zero, false},
		{impl.Wide{High: 1 << 62}, 4, zero, false},
		{impl.Wide{High: 1 << 62, Low: 5}, 4, zero, false},
		{impl.Wide{Low: mostUint}, 2, impl.Wide{High: 1, Low: mostUint - 1}, true},
		{impl.Wide{Low: mostUint}, least, impl.Wide{Neg: true, High: math.MaxInt64, Low: 1 << 63}, true},
		{impl.Wide{High: 1}, least, zero, false},
		{impl.Wide{Neg: true, High: 1}, least, zero, false},
		{impl.Wide{High: 1}, math.MaxInt, impl.Wide{High: math.MaxInt64}, true},
		{impl.Wide{High: 1<<62 - 1, Low: mostUint}, 4, zero, false},
		// Three times this High is 2^64 - 1, so that only the carry of 2 from Low goes beyond 64 bits.
		{impl.Wide{High: 0x5555555555555555, Low: mostUint}, 3, zero, false},
		{impl.Wide{High: 1 << 61, Low: mostUint}, 7, zero, false},
		{impl.Wide{High: 1 << 61, Low: mostUint}, -3, impl.Wide{Neg: true, High: 3<<61 + 2, Low: mostUint - 2}, true},
	} {
		if w, ok := impl.ScaleWide(c.w, c.k); w != c.product || ok != c.ok {
			t.Errorf("ScaleWide(%v, %d) = %v, %v, want %v, %v", c.w, c.k, w, ok, c.product, c.ok)
		}
	}
}

func TestScaleWideOfInvalidNumbers(t *testing.T) {
	for _, w := range invalidWides() {
		for _, k := range checkInts() {
			if product, ok := impl.ScaleWide(w, k); product != zero || ok {
				t.Errorf("ScaleWide(%v, %d) = %v, %v, want the zero Wide, false", w, k, product, ok)
			}
		}
	}
}
