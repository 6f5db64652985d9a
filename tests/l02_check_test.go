package tests

import (
	"math"
	"math/big"
	"testing"

	"loop.example/g00500/impl"
)

// checkInts are both ends of int and what is near them, near zero, near the powers of two, and near the roots of the largest integer.
func checkInts() []int {
	list := []int{3037000499, 3037000500, -3037000499, -3037000500, 2097151, -2097152, 6148914691236517205, -3074457345618258602}
	for n := -9; n <= 9; n++ {
		list = append(list, n)
	}
	for k := range 5 {
		list = append(list, math.MinInt+k, math.MaxInt-k, math.MinInt/2+k-2, math.MaxInt/2+k-2)
	}
	for _, k := range []uint{8, 16, 31, 32, 33, 47, 61} {
		p := 1 << k
		list = append(list, p-1, p, p+1, -p-1, -p, 1-p)
	}
	return list
}

// checkOperation compares a result with the exact one, which is nil if there is none.
func checkOperation(t *testing.T, name string, a int, b int, exact *big.Int, n int, ok bool) {
	t.Helper()
	if exact == nil || !exact.IsInt64() {
		if n != 0 || ok {
			t.Errorf("%s(%d, %d) = %d, %v, want 0, false", name, a, b, n, ok)
		}
	} else if n != int(exact.Int64()) || !ok {
		t.Errorf("%s(%d, %d) = %d, %v, want %v, true", name, a, b, n, ok, exact)
	}
}

// exactFloor returns a / b rounded down, or nil if b is 0.
func exactFloor(a int, b int) *big.Int {
	if b == 0 {
		return nil
	}
	x, y := big.NewInt(int64(a)), big.NewInt(int64(b))
	quotient, rest := new(big.Int).QuoRem(x, y, new(big.Int))
	if rest.Sign()*y.Sign() < 0 {
		quotient.Sub(quotient, big.NewInt(1))
	}
	return quotient
}

func TestOperationsAreExact(t *testing.T) {
	for _, a := range checkInts() {
		for _, b := range checkInts() {
			x, y := big.NewInt(int64(a)), big.NewInt(int64(b))
			n, ok := impl.AddInt(a, b)
			checkOperation(t, "AddInt", a, b, new(big.Int).Add(x, y), n, ok)
			n, ok = impl.SubInt(a, b)
			checkOperation(t, "SubInt", a, b, new(big.Int).Sub(x, y), n, ok)
			n, ok = impl.MulInt(a, b)
			checkOperation(t, "MulInt", a, b, new(big.Int).Mul(x, y), n, ok)
			n, ok = impl.FloorDiv(a, b)
			checkOperation(t, "FloorDiv", a, b, exactFloor(a, b), n, ok)
			half := new(big.Int).Rsh(new(big.Int).Add(x, y), 1)
			checkOperation(t, "HalfSum", a, b, half, impl.HalfSum(a, b), true)
		}
	}
}

func TestSubtractionInvertsAddition(t *testing.T) {
	for _, a := range checkInts() {
		for _, b := range checkInts() {
			if sum, ok := impl.AddInt(a, b); ok {
				if n, ok := impl.SubInt(sum, b); n != a || !ok {
					t.Errorf("SubInt(%d, %d) = %d, %v, want %d", sum, b, n, ok, a)
				}
				if n, ok := impl.SubInt(sum, a); n != b || !ok {
					t.Errorf("SubInt(%d, %d) = %d, %v, want %d", sum, a, n, ok, b)
				}
			}
			if rest, ok := impl.SubInt(a, b); ok {
				if n, ok := impl.AddInt(rest, b); n != a || !ok {
					t.Errorf("AddInt(%d, %d) = %d, %v, want %d", rest, b, n, ok, a)
				}
			}
		}
	}
}

func TestRemaindersAreSmallerThanDivisors(t *testing.T) {
	for _, a := range checkInts() {
		for _, b := range checkInts() {
			quotient, ok := impl.FloorDiv(a, b)
			if none := b == 0 || a == math.MinInt && b == -1; ok == none {
				t.Errorf("FloorDiv(%d, %d) returns %v", a, b, ok)
			}
			if !ok {
				continue
			}
			// The product may overflow, but the remainder is in range, so it survives the wraparound.
			rest := a - quotient*b
			if b > 0 && (rest < 0 || rest >= b) || b < 0 && (rest > 0 || rest <= b) {
				t.Errorf("FloorDiv(%d, %d) = %d, with the remainder %d", a, b, quotient, rest)
			}
		}
	}
}

type operationCase struct {
	a, b, want int
	ok         bool
}

func checkCases(t *testing.T, name string, operate func(int, int) (int, bool), cases []operationCase) {
	t.Helper()
	for _, c := range cases {
		if n, ok := operate(c.a, c.b); n != c.want || ok != c.ok {
			t.Errorf("%s(%d, %d) = %d, %v, want %d, %v", name, c.a, c.b, n, ok, c.want, c.ok)
		}
	}
}

func TestAddIntAtTheEnds(t *testing.T) {
	most, least := math.MaxInt, math.MinInt
	checkCases(t, "AddInt", impl.AddInt, []operationCase{
		{most - 1, 1, most, true}, {most, 1, 0, false}, {1, most, 0, false},
		{least + 1, -1, least, true}, {least, -1, 0, false}, {-1, least, 0, false},
		{most, least, -1, true}, {most, most, 0, false}, {least, least, 0, false},
		{least, 0, least, true}, {0, most, most, true}, {2, -5, -3, true},
	})
}

func TestSubIntAtTheEnds(t *testing.T) {
	most, least := math.MaxInt, math.MinInt
	checkCases(t, "SubInt", impl.SubInt, []operationCase{
		{least + 1, 1, least, true}, {least, 1, 0, false}, {-2, most, 0, false},
		{most - 1, -1, most, true}, {most, -1, 0, false}, {0, least, 0, false},
		{-1, least, most, true}, {-1, most, least, true}, {1, least, 0, false},
		{least, least, 0, true}, {most, most, 0, true}, {least, 0, least, true},
		{most, least, 0, false}, {least, most, 0, false}, {2, 5, -3, true},
	})
}

func TestMulIntAtTheEnds(t *testing.T) {
	most, least := math.MaxInt, math.MinInt
	checkCases(t, "MulInt", impl.MulInt, []operationCase{
		{3037000499, 3037000499, 9223372030926249001, true}, {3037000500, 3037000500, 0, false}, {1 << 31, 1 << 32, 0, false},
		{-1 << 31, 1 << 32, least, true}, {1 << 32, -1 << 31, least, true}, {1 << 32, 1 << 32, 0, false},
		{1 << 62, 2, 0, false}, {1 << 62, -2, least, true}, {least, -1, 0, false},
		{-1, least, 0, false}, {least, 1, least, true}, {1, least, least, true},
		{least, 0, 0, true}, {0, least, 0, true}, {most, -1, -most, true},
		{-1, most, -most, true}, {least, least, 0, false}, {7, 1317624576693539401, most, true},
		{7, 1317624576693539402, 0, false}, {-3, 4, -12, true},
	})
}

func TestFloorDivAtTheEnds(t *testing.T) {
	most, least := math.MaxInt, math.MinInt
	checkCases(t, "FloorDiv", impl.FloorDiv, []operationCase{
		{7, 2, 3, true}, {-7, 2, -4, true}, {7, -2, -4, true},
		{-7, -2, 3, true}, {-6, 2, -3, true}, {6, -2, -3, true},
		{-6, -2, 3, true}, {-1, most, -1, true}, {1, least, -1, true},
		{-1, least, 0, true}, {least, 1, least, true}, {least, 2, least / 2, true},
		{least, most, -2, true}, {most, least, -1, true}, {least, least, 1, true},
		{least + 1, -1, most, true}, {least, -1, 0, false}, {0, -5, 0, true},
		{1, 0, 0, false}, {0, 0, 0, false}, {least, 0, 0, false},
	})
}

func TestHalfSum(t *testing.T) {
	most, least := math.MaxInt, math.MinInt
	for _, c := range [][3]int{
		{0, 0, 0}, {1, 0, 0}, {1, 1, 1}, {1, 2, 1}, {3, 4, 3}, {-1, 0, -1}, {0, -1, -1}, {-3, 0, -2}, {-1, -1, -1}, {-1, -2, -2}, {-4, 1, -2},
		{3, -4, -1}, {1, -1, 0}, {2, -1, 0}, {most, most, most}, {most, most - 1, most - 1}, {most, 1, 1 << 62}, {most, 0, 1<<62 - 1},
		{least, least, least}, {least, least + 1, least}, {least + 1, least + 1, least + 1}, {least, -1, -1<<62 - 1}, {least, 0, -1 << 62},
		{least, most, -1}, {most, least, -1}, {least + 1, most, 0},
	} {
		if n := impl.HalfSum(c[0], c[1]); n != c[2] {
			t.Errorf("HalfSum(%d, %d) = %d, want %d", c[0], c[1], n, c[2])
		}
	}
}

func TestBrought(t *testing.T) {
	most, least := math.MaxInt, math.MinInt
	for _, c := range [][4]int{
		{5, 1, 9, 5}, {0, 1, 9, 1}, {1, 1, 9, 1}, {2, 1, 9, 2}, {8, 1, 9, 8}, {9, 1, 9, 9}, {10, 1, 9, 9}, {3, 4, 4, 4}, {4, 4, 4, 4}, {5, 4, 4, 4},
		{-7, -5, -3, -5}, {-1, -5, -3, -3}, {5, 9, 1, 9}, {0, 9, 1, 9}, {1, 9, 1, 9}, {8, 9, 1, 9}, {9, 9, 1, 1}, {10, 9, 1, 1},
		{least, least, most, least}, {most, least, most, most}, {0, most, least, most}, {most, most, least, least}, {least, most, least, most},
		{least, 0, most, 0}, {most, least, 0, 0},
	} {
		if n := impl.Brought(c[0], c[1], c[2]); n != c[3] {
			t.Errorf("Brought(%d, %d, %d) = %d, want %d", c[0], c[1], c[2], n, c[3])
		}
	}
}

func TestSignOf(t *testing.T) {
	for _, n := range checkInts() {
		if s, want := impl.SignOf(n), big.NewInt(int64(n)).Sign(); s != want {
			t.Errorf("SignOf(%d) = %d, want %d", n, s, want)
		}
	}
}
