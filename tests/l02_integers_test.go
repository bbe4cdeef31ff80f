package tests

import (
	"math"
	"math/big"
	"testing"

	"loop.example/g00982/impl"
)

// The limits of the numerator and of the divisor of DivNear, as the document writes them.
const (
	nearNumerator = 1000000000000000
	nearDivisor   = 2147483647
)

// extremeInts holds the least and the greatest int and other numbers where a division may overflow.
func extremeInts() []int {
	return []int{
		math.MinInt, math.MinInt + 1, math.MinInt + 2, math.MinInt / 2, math.MinInt/2 + 1,
		-nearNumerator - 1, -nearNumerator, -nearNumerator + 1,
		-nearDivisor - 1, -nearDivisor, -7, -2, -1, 0, 1, 2, 3, 7,
		nearDivisor - 1, nearDivisor, nearDivisor + 1,
		nearNumerator - 1, nearNumerator, nearNumerator + 1,
		math.MaxInt / 2, math.MaxInt/2 + 1, math.MaxInt - 2, math.MaxInt - 1, math.MaxInt,
	}
}

// bigFloor returns a/b rounded down, for a positive b. (big.Int.Div rounds down if the divisor is positive.)
func bigFloor(a *big.Int, b *big.Int) int {
	return int(new(big.Int).Div(a, b).Int64())
}

func exactFloor(a int, b int) int {
	if b <= 0 {
		return 0
	}
	return bigFloor(big.NewInt(int64(a)), big.NewInt(int64(b)))
}

func exactTrunc(a int, b int) int {
	if b <= 0 {
		return 0
	}
	return int(new(big.Int).Quo(big.NewInt(int64(a)), big.NewInt(int64(b))).Int64())
}

func exactNear(a int, b int) int {
	if b < 1 || b > nearDivisor || a < -nearNumerator || a > nearNumerator {
		return 0
	}
	two, numerator, divisor := big.NewInt(2), big.NewInt(int64(a)), big.NewInt(int64(b))
	numerator.Mul(numerator, two).Add(numerator, divisor)
	return bigFloor(numerator, divisor.Mul(divisor, two))
}

// wantQuotients compares the three quotients of a and b with those of exact arithmetic.
func wantQuotients(t *testing.T, a int, b int) {
	t.Helper()
	if got, want := impl.DivFloor(a, b), exactFloor(a, b); got != want {
		t.Errorf("DivFloor(%d, %d) = %d; want %d", a, b, got, want)
	}
	if got, want := impl.DivTrunc(a, b), exactTrunc(a, b); got != want {
		t.Errorf("DivTrunc(%d, %d) = %d; want %d", a, b, got, want)
	}
	if got, want := impl.DivNear(a, b), exactNear(a, b); got != want {
		t.Errorf("DivNear(%d, %d) = %d; want %d", a, b, got, want)
	}
}

func TestLimitsOfIntegers(t *testing.T) {
	if impl.MaxInt32 != 2147483647 {
		t.Errorf("MaxInt32 is %d", impl.MaxInt32)
	}
}

func TestQuotients(t *testing.T) {
	cases := []struct{ a, b, floor, trunc, near int }{
		{0, 1, 0, 0, 0},
		{0, 5, 0, 0, 0},
		{7, 1, 7, 7, 7},
		{-7, 1, -7, -7, -7},
		{6, 3, 2, 2, 2},
		{-6, 3, -2, -2, -2},
		{7, 3, 2, 2, 2},
		{8, 3, 2, 2, 3},
		{-7, 3, -3, -2, -2},
		{-8, 3, -3, -2, -3},
		{1, 3, 0, 0, 0},
		{2, 3, 0, 0, 1},
		{-1, 3, -1, 0, 0},
		{-2, 3, -1, 0, -1},
		{1, 100, 0, 0, 0},
		{-1, 100, -1, 0, 0},
		{99, 100, 0, 0, 1},
		{-99, 100, -1, 0, -1},
	}
	for _, c := range cases {
		if got := impl.DivFloor(c.a, c.b); got != c.floor {
			t.Errorf("DivFloor(%d, %d) = %d; want %d", c.a, c.b, got, c.floor)
		}
		if got := impl.DivTrunc(c.a, c.b); got != c.trunc {
			t.Errorf("DivTrunc(%d, %d) = %d; want %d", c.a, c.b, got, c.trunc)
		}
		if got := impl.DivNear(c.a, c.b); got != c.near {
			t.Errorf("DivNear(%d, %d) = %d; want %d", c.a, c.b, got, c.near)
		}
	}
}

// TestDivNearHalves checks that of two equally near integers the greater one is taken, on both sides of 0.
func TestDivNearHalves(t *testing.T) {
	cases := []struct{ a, b, want int }{
		{1, 2, 1}, {3, 2, 2}, {7, 2, 4}, {-1, 2, 0}, {-3, 2, -1}, {-7, 2, -3},
		{2, 4, 1}, {6, 4, 2}, {-2, 4, 0}, {-6, 4, -1},
		{5, 10, 1}, {15, 10, 2}, {-5, 10, 0}, {-15, 10, -1},
		{nearNumerator - 1, 2, nearNumerator / 2},
		{-nearNumerator + 1, 2, -nearNumerator/2 + 1},
		{(nearDivisor - 1) / 2, nearDivisor - 1, 1},
		{-(nearDivisor - 1) / 2, nearDivisor - 1, 0},
	}
	for _, c := range cases {
		if got := impl.DivNear(c.a, c.b); got != c.want {
			t.Errorf("DivNear(%d, %d) = %d; want %d", c.a, c.b, got, c.want)
		}
	}
	for half := 1; half <= 60; half++ {
		for n := -60; n <= 60; n++ {
			a := half * (2*n + 1)
			if got := impl.DivNear(a, 2*half); got != n+1 {
				t.Errorf("DivNear(%d, %d) = %d; want %d", a, 2*half, got, n+1)
			}
			if got := impl.DivNear(a-1, 2*half); half > 1 && got != n {
				t.Errorf("DivNear(%d, %d) = %d; want %d", a-1, 2*half, got, n)
			}
		}
	}
}

func TestQuotientsAgreeWithBig(t *testing.T) {
	for a := -150; a <= 150; a++ {
		for b := -3; b <= 80; b++ {
			wantQuotients(t, a, b)
		}
	}
	for _, a := range extremeInts() {
		for _, b := range extremeInts() {
			wantQuotients(t, a, b)
		}
		for b := -40; b <= 40; b++ {
			wantQuotients(t, a, b)
			wantQuotients(t, b, a)
		}
	}
}

func TestQuotientsByDivisorsThatAreNotPositive(t *testing.T) {
	divisors := []int{0, -1, -2, -7, -2147483647, -2147483648, math.MinInt + 1, math.MinInt}
	for _, b := range divisors {
		for _, a := range extremeInts() {
			if got := []int{impl.DivFloor(a, b), impl.DivTrunc(a, b), impl.DivNear(a, b)}; got[0] != 0 || got[1] != 0 || got[2] != 0 {
				t.Errorf("the quotients of %d and %d are %v; want zeros", a, b, got)
			}
		}
	}
}

func TestQuotientsOfExtremes(t *testing.T) {
	cases := []struct{ a, b, floor, trunc int }{
		{math.MaxInt, 1, math.MaxInt, math.MaxInt},
		{math.MinInt, 1, math.MinInt, math.MinInt},
		{math.MaxInt, 2, 4611686018427387903, 4611686018427387903},
		{math.MinInt, 2, -4611686018427387904, -4611686018427387904},
		{math.MinInt + 1, 2, -4611686018427387904, -4611686018427387903},
		{math.MinInt, 3, -3074457345618258603, -3074457345618258602},
		{math.MaxInt, math.MaxInt, 1, 1},
		{math.MinInt, math.MaxInt, -2, -1},
		{math.MinInt + 1, math.MaxInt, -1, -1},
		{math.MaxInt - 1, math.MaxInt, 0, 0},
		{-1, math.MaxInt, -1, 0},
		{1, math.MaxInt, 0, 0},
		{0, math.MaxInt, 0, 0},
	}
	for _, c := range cases {
		if got := impl.DivFloor(c.a, c.b); got != c.floor {
			t.Errorf("DivFloor(%d, %d) = %d; want %d", c.a, c.b, got, c.floor)
		}
		if got := impl.DivTrunc(c.a, c.b); got != c.trunc {
			t.Errorf("DivTrunc(%d, %d) = %d; want %d", c.a, c.b, got, c.trunc)
		}
	}
}

func TestDivNearLimits(t *testing.T) {
	cases := []struct{ a, b, want int }{
		{nearNumerator, 1, nearNumerator},
		{-nearNumerator, 1, -nearNumerator},
		{nearNumerator + 1, 1, 0},
		{-nearNumerator - 1, 1, 0},
		{math.MaxInt, 1, 0},
		{math.MinInt, 1, 0},
		{nearDivisor, nearDivisor, 1},
		{-nearDivisor, nearDivisor, -1},
		{nearDivisor + 1, nearDivisor, 1},
		{nearDivisor + 1, nearDivisor + 1, 0},
		{-nearDivisor - 1, nearDivisor + 1, 0},
		{nearNumerator, nearDivisor, 465661},
		{-nearNumerator, nearDivisor, -465661},
		{nearNumerator + 1, nearDivisor, 0},
		{-nearNumerator - 1, nearDivisor, 0},
		{nearNumerator, nearDivisor + 1, 0},
		{nearNumerator, math.MaxInt, 0},
		{nearNumerator, 0, 0},
		{nearNumerator, -1, 0},
		{math.MaxInt, math.MaxInt, 0},
		{math.MinInt, math.MinInt, 0},
	}
	for _, c := range cases {
		if got := impl.DivNear(c.a, c.b); got != c.want {
			t.Errorf("DivNear(%d, %d) = %d; want %d", c.a, c.b, got, c.want)
		}
	}
}

// TestQuotientsLieWhereTheyShould states the promise itself: b times the quotient is as far from a as the rounding permits.
func TestQuotientsLieWhereTheyShould(t *testing.T) {
	for a := -300; a <= 300; a++ {
		for b := 1; b <= 60; b++ {
			if rest := a - b*impl.DivFloor(a, b); rest < 0 || rest >= b {
				t.Errorf("DivFloor(%d, %d) leaves the rest %d", a, b, rest)
			}
			if rest := a - b*impl.DivTrunc(a, b); rest*a < 0 || rest <= -b || rest >= b || a == 0 && rest != 0 {
				t.Errorf("DivTrunc(%d, %d) leaves the rest %d", a, b, rest)
			}
			if rest := a - b*impl.DivNear(a, b); 2*rest < -b || 2*rest >= b {
				t.Errorf("DivNear(%d, %d) leaves the rest %d", a, b, rest)
			}
		}
	}
}

func TestSplitEven(t *testing.T) {
	cases := []struct{ n, first, second int }{
		{0, 0, 0}, {1, 1, 0}, {2, 1, 1}, {3, 2, 1}, {7, 4, 3}, {8, 4, 4},
		{math.MaxInt - 1, 4611686018427387903, 4611686018427387903},
		{math.MaxInt, 4611686018427387904, 4611686018427387903},
		{-1, 0, 0}, {-2, 0, 0}, {-3, 0, 0}, {math.MinInt + 1, 0, 0}, {math.MinInt, 0, 0},
	}
	for _, c := range cases {
		if first, second := impl.SplitEven(c.n); first != c.first || second != c.second {
			t.Errorf("SplitEven(%d) = %d, %d; want %d, %d", c.n, first, second, c.first, c.second)
		}
	}
	for n := 0; n <= 2000; n++ {
		first, second := impl.SplitEven(n)
		if first+second != n || first-second != n%2 {
			t.Errorf("SplitEven(%d) = %d, %d", n, first, second)
		}
		if first, second = impl.SplitEven(-n - 1); first != 0 || second != 0 {
			t.Errorf("SplitEven(%d) = %d, %d; want zeros", -n-1, first, second)
		}
	}
}

func TestIsPowerOfTwo(t *testing.T) {
	powers := map[int]bool{}
	for k := 0; k <= 62; k++ {
		powers[1<<k] = true
	}
	check := func(n int) {
		if got := impl.IsPowerOfTwo(n); got != powers[n] {
			t.Errorf("IsPowerOfTwo(%d) = %v", n, got)
		}
	}
	for n := -3000; n <= 3000; n++ {
		check(n)
	}
	for k := 0; k <= 62; k++ {
		for d := -3; d <= 3; d++ {
			check(1<<k + d)
			check(-(1 << k) + d)
		}
		for low := 0; low < k; low++ {
			check(1<<k + 1<<low)
			check(-(1 << k) - 1<<low)
		}
	}
	for _, n := range extremeInts() {
		check(n)
	}
}

func TestLogTwo(t *testing.T) {
	cases := map[int]int{
		1: 0, 2: 1, 3: 1, 4: 2, 7: 2, 8: 3, 9: 3, 1023: 9, 1024: 10, 1025: 10,
		1<<32 - 1: 31, 1 << 32: 32, 1<<53 - 1: 52, 1<<53 + 1: 53,
		1<<62 - 1: 61, 1 << 62: 62, math.MaxInt: 62,
		0: -1, -1: -1, -2: -1, -8: -1, math.MinInt: -1, math.MinInt + 1: -1,
	}
	for n, want := range cases {
		if got := impl.LogTwo(n); got != want {
			t.Errorf("LogTwo(%d) = %d; want %d", n, got, want)
		}
	}
	for k := 0; k <= 62; k++ {
		if got := impl.LogTwo(1 << k); got != k {
			t.Errorf("LogTwo(%d) = %d; want %d", 1<<k, got, k)
		}
		if got := impl.LogTwo(1<<k - 1); got != k-1 {
			t.Errorf("LogTwo(%d) = %d; want %d", 1<<k-1, got, k-1)
		}
		if got := impl.LogTwo(1<<k - 1 + 1<<k); got != k {
			t.Errorf("LogTwo(%d) = %d; want %d", 1<<k-1+1<<k, got, k)
		}
		if got := impl.LogTwo(-(1 << k)); got != -1 {
			t.Errorf("LogTwo(%d) = %d; want -1", -(1 << k), got)
		}
	}
	for n := 1; n <= 5000; n++ {
		if k := impl.LogTwo(n); k < 0 || k > 12 || 1<<k > n || 1<<(k+1) <= n {
			t.Errorf("LogTwo(%d) = %d", n, k)
		}
		if got := impl.LogTwo(-n); got != -1 {
			t.Errorf("LogTwo(%d) = %d; want -1", -n, got)
		}
	}
}
