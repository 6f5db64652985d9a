package tests

import (
	"math"
	"math/big"
	"testing"

	"loop.example/g00500/impl"
)

var noFrac = impl.Frac{}

// frac returns n / den for a small n.
func frac(n int, den int) impl.Frac { return impl.Frac{Num: impl.WideOf(n), Den: den} }

// validDens are both ends of the valid denominators, their neighbours, divisors and roots of MaxDen, and numbers without a common divisor with these.
func validDens() []int {
	return []int{1, 2, 3, 4, 7, 64, 999, 1000, 1001, 15625, 499999, 500000, 999983, impl.MaxDen - 1, impl.MaxDen}
}

// invalidDens are also numbers that would be valid if bits were dropped, and numbers whose products with others wrap around to a valid one.
func invalidDens() []int {
	return []int{
		0, -1, -2, -3, -1000, -999999, -1000000, -1000001, 1000001, 1000002, 1001000, 1 << 20, 1 << 31, 1 << 32, 1<<32 + 1, -1 << 32, 1 - 1<<32, 1<<62 + 1,
		-6148914691236517205, 6148914691236517206, math.MaxInt - 1, math.MaxInt, math.MinInt + 1, math.MinInt,
	}
}

// invalidFracs have one invalid part or two.
func invalidFracs() []impl.Frac {
	list := []impl.Frac{}
	for _, den := range invalidDens() {
		for _, num := range []impl.Wide{zero, impl.WideOf(1), impl.WideOf(-1), mostWide, leastWide, {Neg: true}, {High: 1 << 63}} {
			list = append(list, impl.Frac{Num: num, Den: den})
		}
	}
	for _, num := range invalidWides() {
		for _, den := range []int{1, 2, 1000, impl.MaxDen} {
			list = append(list, impl.Frac{Num: num, Den: den})
		}
	}
	return list
}

// edgeFracs are valid fractions: around zero, at the ends of integers and of 64 bits, and at the ends of what the denominators can multiply.
func edgeFracs(t *testing.T) []impl.Frac {
	exacts := []*big.Int{exactWide(mostWide), exactWide(impl.Wide{High: 1 << 62}), exactWide(impl.Wide{High: 1<<62 - 1, Low: mostUint})}
	for _, n := range []int{0, 1, 2, 3, 999999, 1000000, 1000001, math.MaxInt} {
		exacts = append(exacts, big.NewInt(int64(n)))
	}
	exacts = append(exacts, exactWide(impl.Wide{Low: mostUint}), exactWide(impl.Wide{High: 1}))
	dens := []int{1, 2, 3, 1000, 1001, impl.MaxDen - 1, impl.MaxDen}
	for _, den := range dens[1:] {
		last := new(big.Int).Quo(exactWide(mostWide), big.NewInt(int64(den)))
		exacts = append(exacts, last, new(big.Int).Add(last, big.NewInt(1)))
	}
	list := []impl.Frac{}
	for _, exact := range exacts {
		for _, num := range bothSigns(t, exact) {
			for _, den := range dens {
				list = append(list, impl.Frac{Num: num, Den: den})
			}
		}
	}
	return list
}

// crossExact returns the exact a.Num*b.Den and b.Num*a.Den, and whether both are small enough for a Wide.
func crossExact(a impl.Frac, b impl.Frac) (*big.Int, *big.Int, bool) {
	left := new(big.Int).Mul(exactWide(a.Num), big.NewInt(int64(b.Den)))
	right := new(big.Int).Mul(exactWide(b.Num), big.NewInt(int64(a.Den)))
	return left, right, left.BitLen() <= 127 && right.BitLen() <= 127
}

// exactFrac returns the number that f denotes.
func exactFrac(f impl.Frac) *big.Rat {
	return new(big.Rat).SetFrac(exactWide(f.Num), big.NewInt(int64(f.Den)))
}

// exactSum returns the sum that AddFrac must return for valid fractions.
func exactSum(a impl.Frac, b impl.Frac) (impl.Frac, bool) {
	left, right, ok := crossExact(a, b)
	num, numOk := wideOfExact(left.Add(left, right))
	if !ok || !numOk || a.Den*b.Den > impl.MaxDen {
		return noFrac, false
	}
	return impl.Frac{Num: num, Den: a.Den * b.Den}, true
}

// checkAdd compares AddFrac of two valid fractions, in both orders, with math/big.
func checkAdd(t *testing.T, a impl.Frac, b impl.Frac) {
	t.Helper()
	want, wantOk := exactSum(a, b)
	for _, c := range [][2]impl.Frac{{a, b}, {b, a}} {
		if sum, ok := impl.AddFrac(c[0], c[1]); sum != want || ok != wantOk {
			t.Errorf("AddFrac(%v, %v) = %v, %v, want %v, %v", c[0], c[1], sum, ok, want, wantOk)
		}
	}
	if exact := new(big.Rat).Add(exactFrac(a), exactFrac(b)); wantOk && exactFrac(want).Cmp(exact) != 0 {
		t.Errorf("%v is not the sum of %v and %v", want, a, b)
	}
}

// checkCompare compares CompareFrac of two valid fractions, in both orders, with math/big.
func checkCompare(t *testing.T, a impl.Frac, b impl.Frac) {
	t.Helper()
	_, _, wantOk := crossExact(a, b)
	want := 0
	if wantOk {
		want = exactFrac(a).Cmp(exactFrac(b))
	}
	if n, ok := impl.CompareFrac(a, b); n != want || ok != wantOk {
		t.Errorf("CompareFrac(%v, %v) = %d, %v, want %d, %v", a, b, n, ok, want, wantOk)
	}
	if n, ok := impl.CompareFrac(b, a); n != -want || ok != wantOk {
		t.Errorf("CompareFrac(%v, %v) = %d, %v, want %d, %v", b, a, n, ok, -want, wantOk)
	}
}

// fracsOfSum returns x/left and y/right with x*right + y*left = sum, where x*right is at most size and near it; the denominators have no common divisor.
func fracsOfSum(t *testing.T, left int, right int, sum *big.Int, size *big.Int) (impl.Frac, impl.Frac) {
	t.Helper()
	l, r := big.NewInt(int64(left)), big.NewInt(int64(right))
	// Modulo left, x has to be sum/right; the largest such number up to size/right is taken.
	x := new(big.Int).Mul(sum, new(big.Int).ModInverse(r, l))
	top := new(big.Int).Div(size, r)
	x.Mod(x.Sub(top, x), l)
	x.Sub(top, x)
	rest := new(big.Int).Sub(sum, new(big.Int).Mul(x, r))
	y, remainder := new(big.Int).QuoRem(rest, l, new(big.Int))
	a, aOk := wideOfExact(x)
	b, bOk := wideOfExact(y)
	if !aOk || !bOk || remainder.Sign() != 0 {
		t.Fatalf("%v/%d and %v/%d do not fit", x, left, y, right)
	}
	return impl.Frac{Num: a, Den: left}, impl.Frac{Num: b, Den: right}
}

// negated returns -f.
func negated(f impl.Frac) impl.Frac { return impl.Frac{Num: impl.NegWide(f.Num), Den: f.Den} }

func TestFracOk(t *testing.T) {
	if impl.MaxDen != 1000000 {
		t.Error("MaxDen is wrong")
	}
	for _, num := range edgeWides() {
		for _, den := range validDens() {
			if f := (impl.Frac{Num: num, Den: den}); !impl.FracOk(f) {
				t.Errorf("FracOk(%v) = false", f)
			}
		}
		for _, den := range invalidDens() {
			if f := (impl.Frac{Num: num, Den: den}); impl.FracOk(f) {
				t.Errorf("FracOk(%v) = true", f)
			}
		}
	}
	for _, f := range append(invalidFracs(), noFrac) {
		if impl.FracOk(f) {
			t.Errorf("FracOk(%v) = true", f)
		}
	}
}

func TestSquareOverIsExact(t *testing.T) {
	for _, g := range append(edgeInts(), checkInts()...) {
		square := new(big.Int).Mul(big.NewInt(int64(g)), big.NewInt(int64(g)))
		for _, d := range validDens() {
			f, ok := impl.SquareOver(g, d)
			if exactWide(f.Num).Cmp(square) != 0 || f.Num.Neg || f.Den != d || !ok {
				t.Errorf("SquareOver(%d, %d) = %v, %v, want %v over the same", g, d, f, ok, square)
			}
		}
	}
	for _, g := range checkInts() {
		for _, d := range invalidDens() {
			if f, ok := impl.SquareOver(g, d); f != noFrac || ok {
				t.Errorf("SquareOver(%d, %d) = %v, %v, want the zero Frac, false", g, d, f, ok)
			}
		}
	}
}

func TestSquareOverOfNamedIntegers(t *testing.T) {
	for _, c := range []struct {
		g, d int
		num  impl.Wide
	}{
		{0, 1, zero}, {0, impl.MaxDen, zero}, {1, 1, impl.WideOf(1)}, {-1, 1, impl.WideOf(1)}, {-3, 2, impl.WideOf(9)}, {3, 2, impl.WideOf(9)},
		// The fraction is not reduced.
		{2, 4, impl.WideOf(4)}, {-1000, impl.MaxDen, impl.WideOf(1000000)},
		{math.MinInt, 1, impl.Wide{High: 1 << 62}}, {math.MinInt, impl.MaxDen, impl.Wide{High: 1 << 62}},
		{math.MaxInt, 1, impl.Wide{High: 1<<62 - 1, Low: 1}}, {math.MaxInt, impl.MaxDen, impl.Wide{High: 1<<62 - 1, Low: 1}},
		{-math.MaxInt, 7, impl.Wide{High: 1<<62 - 1, Low: 1}}, {1 << 32, 3, impl.Wide{High: 1}}, {1<<32 - 1, 3, impl.Wide{Low: 18446744065119617025}},
	} {
		if f, ok := impl.SquareOver(c.g, c.d); f != (impl.Frac{Num: c.num, Den: c.d}) || !ok {
			t.Errorf("SquareOver(%d, %d) = %v, %v, want %v over the same", c.g, c.d, f, ok, c.num)
		}
	}
}

func TestFractionsAreAddedAndComparedExactly(t *testing.T) {
	list := edgeFracs(t)
	for i, a := range list {
		for _, b := range list[:i+1] {
			checkAdd(t, a, b)
			checkCompare(t, a, b)
		}
	}
}

func TestAddFrac(t *testing.T) {
	most := impl.Frac{Num: mostWide, Den: 1}
	half, halfBelow := impl.Frac{Num: impl.Wide{High: 1 << 62}, Den: 1}, impl.Frac{Num: impl.Wide{High: 1<<62 - 1, Low: mostUint}, Den: 1}
	for _, c := range []struct {
		a, b, sum impl.Frac
		ok        bool
	}{
		{frac(9, 2), frac(4, 3), frac(35, 6), true},
		{frac(-9, 2), frac(4, 3), frac(-19, 6), true},
		{frac(0, 1), frac(0, 1), frac(0, 1), true},
		{frac(0, 1), frac(0, impl.MaxDen), frac(0, impl.MaxDen), true},
		{frac(1, 1), frac(-1, 1), frac(0, 1), true},
		// The sum is not reduced, not even if the denominators are the same or the sum is 0.
		{frac(1, 2), frac(1, 2), frac(4, 4), true},
		{frac(1, 2), frac(-1, 2), frac(0, 4), true},
		{frac(1, 4), frac(1, 6), frac(10, 24), true},
		// The product of the denominators is MaxDen, and then just beyond it or far beyond it.
		{frac(1, 1), frac(1, impl.MaxDen), frac(1000001, impl.MaxDen), true},
		{frac(-1, 1), frac(1, impl.MaxDen), frac(-999999, impl.MaxDen), true},
		{frac(1, 1000), frac(1, 1000), frac(2000, impl.MaxDen), true},
		{frac(1, 15625), frac(-1, 64), frac(-15561, impl.MaxDen), true},
		{frac(1, 101), frac(1, 9901), noFrac, false},
		{frac(1, 1000), frac(1, 1001), noFrac, false},
		{frac(0, 1000), frac(0, 1001), noFrac, false},
		{frac(0, 2), frac(0, impl.MaxDen), noFrac, false},
		{frac(1, impl.MaxDen), frac(-1, impl.MaxDen), noFrac, false},
		{frac(1, 1<<16), frac(1, 1<<16), noFrac, false},
		{frac(1, 999999), frac(1, 1), frac(1000000, 999999), true},
		// The sum is the largest number, and then just beyond it, while both products are in range.
		{half, halfBelow, most, true},
		{half, half, noFrac, false},
		{negated(half), negated(halfBelow), negated(most), true},
		{negated(half), negated(half), noFrac, false},
		{most, frac(0, 1), most, true},
		{most, frac(1, 1), noFrac, false},
		{negated(most), frac(-1, 1), noFrac, false},
		{most, frac(-1, 1), impl.Frac{Num: impl.Wide{High: math.MaxInt64, Low: mostUint - 1}, Den: 1}, true},
		{most, negated(most), frac(0, 1), true},
		{most, most, noFrac, false},
		// A product is beyond the range, though the sum would be in range.
		{most, frac(-1, 2), noFrac, false},
		{impl.Frac{Num: mostWide, Den: 2}, negated(most), noFrac, false},
		{impl.Frac{Num: mostWide, Den: 2}, impl.Frac{Num: leastWide, Den: 2}, noFrac, false},
		{impl.Frac{Num: mostWide, Den: 3}, frac(0, 1), impl.Frac{Num: mostWide, Den: 3}, true},
	} {
		for _, pair := range [][2]impl.Frac{{c.a, c.b}, {c.b, c.a}} {
			if sum, ok := impl.AddFrac(pair[0], pair[1]); sum != c.sum || ok != c.ok {
				t.Errorf("AddFrac(%v, %v) = %v, %v, want %v, %v", pair[0], pair[1], sum, ok, c.sum, c.ok)
			}
		}
	}
}

func TestCompareFrac(t *testing.T) {
	most := impl.Frac{Num: mostWide, Den: 1}
	for _, c := range []struct {
		a, b impl.Frac
		want int
		ok   bool
	}{
		{frac(35, 6), frac(70, 12), 0, true},
		{frac(9, 2), frac(4, 3), 1, true},
		{frac(-9, 2), frac(4, 3), -1, true},
		{frac(-9, 2), frac(-4, 3), -1, true},
		{frac(0, 1), frac(0, impl.MaxDen), 0, true},
		{frac(0, 7), frac(1, impl.MaxDen), -1, true},
		{frac(0, 7), frac(-1, impl.MaxDen), 1, true},
		{frac(1, 1), frac(1, impl.MaxDen), 1, true},
		{frac(-1, 1), frac(-1, impl.MaxDen), -1, true},
		{frac(-1, 1), frac(1, 1), -1, true},
		{frac(1, impl.MaxDen), frac(1, impl.MaxDen), 0, true},
		{frac(1, impl.MaxDen), frac(1, impl.MaxDen-1), -1, true},
		{frac(-1, impl.MaxDen), frac(-1, impl.MaxDen-1), 1, true},
		{frac(impl.MaxDen, impl.MaxDen), frac(1, 1), 0, true},
		{frac(-999999, 999999), frac(-impl.MaxDen, impl.MaxDen), 0, true},
		{frac(999999, impl.MaxDen), frac(999998, 999999), 1, true},
		{frac(999999, impl.MaxDen), frac(999999, 999999), -1, true},
		// As floats, these would be equal.
		{frac(math.MaxInt, 3), frac(math.MaxInt-1, 3), 1, true},
		{frac(math.MinInt, 3), frac(math.MinInt+1, 3), -1, true},
		{most, most, 0, true},
		{most, negated(most), 1, true},
		{most, impl.Frac{Num: impl.Wide{High: math.MaxInt64, Low: mostUint - 1}, Den: 1}, 1, true},
		{most, frac(0, 1), 1, true},
		{impl.Frac{Num: mostWide, Den: impl.MaxDen}, frac(1, 1), 1, true},
		// A product is beyond the range, so that there is no answer, though one would be easy to see.
		{most, frac(0, 2), 0, false},
		{most, frac(-1, 2), 0, false},
		{negated(most), frac(1, 2), 0, false},
		{impl.Frac{Num: mostWide, Den: 2}, impl.Frac{Num: mostWide, Den: 2}, 0, false},
		{impl.Frac{Num: mostWide, Den: 2}, most, 0, false},
		{most, frac(1, impl.MaxDen), 0, false},
	} {
		for _, pair := range [][2]impl.Frac{{c.a, c.b}, {c.b, c.a}} {
			if n, ok := impl.CompareFrac(pair[0], pair[1]); n != c.want || ok != c.ok {
				t.Errorf("CompareFrac(%v, %v) = %d, %v, want %d, %v", pair[0], pair[1], n, ok, c.want, c.ok)
			}
			c.want = -c.want
		}
	}
}

func TestEqualFractionsWithOtherDenominators(t *testing.T) {
	for _, den := range []int{1, 2, 3, 7, 1000, 1001} {
		for _, k := range []int{2, 3, 10, 999} {
			largest := new(big.Int).Quo(exactWide(mostWide), big.NewInt(int64(k*k*den)))
			for _, exact := range []*big.Int{big.NewInt(0), big.NewInt(1), big.NewInt(35), largest} {
				for _, num := range bothSigns(t, exact) {
					scaled, ok := impl.ScaleWide(num, k)
					a, b := impl.Frac{Num: num, Den: den}, impl.Frac{Num: scaled, Den: den * k}
					if n, same := impl.CompareFrac(a, b); n != 0 || !ok || !same {
						t.Errorf("CompareFrac(%v, %v) = %d, %v, want 0, true", a, b, n, same)
					}
				}
			}
		}
	}
}

// TestFractionsThatDifferLeast compares fractions whose products with the denominators are neighbours, up to the largest ones.
func TestFractionsThatDifferLeast(t *testing.T) {
	sizes := []*big.Int{big.NewInt(0), big.NewInt(1 << 53), big.NewInt(math.MaxInt), exactWide(impl.Wide{High: 1}), exactWide(impl.Wide{High: 1 << 62})}
	// Both products have to be in range, also the one that is larger by 1.
	for _, size := range append(sizes, exactWide(impl.Wide{High: math.MaxInt64, Low: mostUint - 1})) {
		for _, dens := range [][2]int{{1, 1}, {1, 2}, {2, 3}, {1, impl.MaxDen}, {999, 1000}, {impl.MaxDen - 1, impl.MaxDen}, {999983, impl.MaxDen}} {
			for _, difference := range []int64{-1, 1} {
				a, b := fracsOfSum(t, dens[0], dens[1], big.NewInt(difference), size)
				b = negated(b)
				checkCompare(t, a, b)
				checkCompare(t, negated(a), negated(b))
				if n, ok := impl.CompareFrac(a, b); n != int(difference) || !ok {
					t.Errorf("CompareFrac(%v, %v) = %d, %v, want %d, true", a, b, n, ok, difference)
				}
			}
		}
	}
	for _, pair := range [][2]impl.Frac{
		{frac(1, 2), frac(3, 4)}, {frac(5, impl.MaxDen), frac(6, impl.MaxDen)}, {frac(-6, impl.MaxDen), frac(-5, impl.MaxDen)},
		{frac(1, 500000), frac(3, impl.MaxDen)}, {frac(0, impl.MaxDen), frac(1, impl.MaxDen)}, {frac(-1, impl.MaxDen), frac(0, 1)},
	} {
		if n, ok := impl.CompareFrac(pair[0], pair[1]); n != -1 || !ok {
			t.Errorf("CompareFrac(%v, %v) = %d, %v, want -1, true", pair[0], pair[1], n, ok)
		}
	}
}

// TestProductsAtTheEnd uses the last number whose product with a denominator is in range, and the first one beyond it, for one operand and for both.
func TestProductsAtTheEnd(t *testing.T) {
	for _, den := range validDens() {
		last := new(big.Int).Quo(exactWide(mostWide), big.NewInt(int64(den)))
		within := bothSigns(t, last)
		for _, num := range within {
			for _, other := range []impl.Frac{frac(0, den), frac(1, den), frac(-1, den)} {
				checkBothInRange(t, impl.Frac{Num: num, Den: 1}, other, true)
			}
			for _, second := range within {
				checkBothInRange(t, impl.Frac{Num: num, Den: den}, impl.Frac{Num: second, Den: den}, true)
			}
		}
		if den == 1 {
			// No product with 1 is beyond the range.
			continue
		}
		beyond := bothSigns(t, new(big.Int).Add(last, big.NewInt(1)))
		for i, num := range beyond {
			for _, other := range []impl.Frac{frac(0, den), frac(1, den), frac(-1, den)} {
				checkBothInRange(t, impl.Frac{Num: num, Den: 1}, other, false)
			}
			for _, second := range []impl.Wide{within[0], within[1], beyond[i], beyond[1-i]} {
				checkBothInRange(t, impl.Frac{Num: num, Den: den}, impl.Frac{Num: second, Den: den}, false)
			}
		}
	}
}

// checkBothInRange checks AddFrac and CompareFrac, and whether both products are in range.
func checkBothInRange(t *testing.T, a impl.Frac, b impl.Frac, inRange bool) {
	t.Helper()
	checkAdd(t, a, b)
	checkCompare(t, a, b)
	if _, ok := impl.CompareFrac(a, b); ok != inRange {
		t.Errorf("CompareFrac(%v, %v) returns %v", a, b, ok)
	}
	if _, ok := impl.AddFrac(a, b); ok && !inRange {
		t.Errorf("AddFrac(%v, %v) returns %v", a, b, ok)
	}
}

// TestSumsAtTheEnd adds fractions whose products are in range, up to the largest sum and just beyond it.
func TestSumsAtTheEnd(t *testing.T) {
	half := exactWide(impl.Wide{High: 1 << 62})
	for _, dens := range [][2]int{{1, 1}, {1, 2}, {2, 3}, {1, impl.MaxDen}, {999, 1000}, {64, 15625}, {7, 500}} {
		for step := int64(-2); step <= 2; step++ {
			a, b := fracsOfSum(t, dens[0], dens[1], new(big.Int).Add(exactWide(mostWide), big.NewInt(step)), half)
			if _, _, ok := crossExact(a, b); !ok {
				t.Fatalf("a product of %v and %v is too large", a, b)
			}
			checkAdd(t, a, b)
			checkAdd(t, negated(a), negated(b))
			if sum, ok := impl.AddFrac(a, b); ok != (step <= 0) {
				t.Errorf("AddFrac(%v, %v) = %v, %v", a, b, sum, ok)
			}
			if sum, ok := impl.AddFrac(negated(a), negated(b)); ok != (step <= 0) {
				t.Errorf("AddFrac(%v, %v) = %v, %v", negated(a), negated(b), sum, ok)
			}
		}
	}
}

func TestInvalidOperands(t *testing.T) {
	valid := []impl.Frac{frac(0, 1), frac(1, 1), frac(-1, 3), frac(1, impl.MaxDen), {Num: mostWide, Den: 1}, {Num: leastWide, Den: impl.MaxDen}}
	for _, bad := range append(invalidFracs(), noFrac) {
		for _, other := range append(valid, invalidFracs()...) {
			for _, pair := range [][2]impl.Frac{{bad, other}, {other, bad}} {
				if sum, ok := impl.AddFrac(pair[0], pair[1]); sum != noFrac || ok {
					t.Errorf("AddFrac(%v, %v) = %v, %v, want the zero Frac, false", pair[0], pair[1], sum, ok)
				}
				if n, ok := impl.CompareFrac(pair[0], pair[1]); n != 0 || ok {
					t.Errorf("CompareFrac(%v, %v) = %d, %v, want 0, false", pair[0], pair[1], n, ok)
				}
			}
		}
		if s := impl.FracText(bad); s != "" {
			t.Errorf("FracText(%v) = %q, want it empty", bad, s)
		}
	}
}

func TestFracText(t *testing.T) {
	for _, c := range []struct {
		f impl.Frac
		s string
	}{
		{frac(0, 1), "0/1"}, {frac(0, impl.MaxDen), "0/1000000"}, {frac(1, 1), "1/1"}, {frac(-1, 1), "-1/1"}, {frac(-1, impl.MaxDen), "-1/1000000"},
		{frac(4, 4), "4/4"}, {frac(-70, 12), "-70/12"}, {frac(35, 999999), "35/999999"}, {frac(math.MinInt, 10), "-9223372036854775808/10"},
		{impl.Frac{Num: mostWide, Den: 1}, mostText + "/1"}, {impl.Frac{Num: leastWide, Den: impl.MaxDen}, "-" + mostText + "/1000000"},
		{impl.Frac{Num: impl.Wide{High: 1}, Den: 3}, "18446744073709551616/3"},
	} {
		if s := impl.FracText(c.f); s != c.s {
			t.Errorf("FracText(%v) = %q, want %q", c.f, s, c.s)
		}
	}
	for _, f := range edgeFracs(t) {
		want := exactWide(f.Num).String() + "/" + big.NewInt(int64(f.Den)).String()
		if s := impl.FracText(f); s != want {
			t.Errorf("FracText(%v) = %q, want %q", f, s, want)
		}
	}
}
