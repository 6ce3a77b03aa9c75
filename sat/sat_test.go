package sat_test

import (
	"math"
	"math/big"
	"testing"

	"doorman/api"
	"doorman/sat"
)

const top = 1 << 40

// numbers are ordinary ones, each power of two of both signs with its neighbours, and the limits.
func numbers() []int {
	l := []int{math.MinInt, math.MinInt + 1, math.MaxInt, math.MaxInt - 1, 0}
	for i := range 63 {
		p := 1 << i
		l = append(l, p-1, p, p+1, -p-1, -p, 1-p)
	}
	return append(l, ordinary()...)
}

// ordinary are numbers whose products with each other lie on both sides of MaxTick.
func ordinary() []int {
	return []int{5, 7, 10, 60, 97, 1000, 12345, 65537, 1000003, 123456789, 999999999999, top / 3, top/3 + 1, top - 97, top + 97}
}

// few is short enough for all triples of its numbers.
func few() []int {
	l := []int{math.MinInt, -top, -3, -1, 0, 1, 2, 3, 1<<20 - 1, 1 << 20, 1<<20 + 1, 1 << 32, 1 << 39, top - 1, top, top + 1, math.MaxInt}
	return append(l, ordinary()...)
}

// counts are numbers of doublings, among them those that a number of 8, 16 or 32 bits would mistake for small ones.
func counts() []int {
	l := []int{math.MinInt, math.MinInt + 1, -1 << 32, -65, -64, -40, -2, 100, 127, 128, 129, 255, 256, 257, 1000, 65535, 65536, 65537,
		1<<31 - 1, 1 << 31, 1<<32 - 1, 1 << 32, 1<<32 + 1, 1 << 40, 1 << 62, math.MaxInt - 1, math.MaxInt}
	for k := -1; k <= 66; k++ {
		l = append(l, k)
	}
	return l
}

// fitted limits a number that may have more than 64 bits.
func fitted(n *big.Int) int {
	if n.Sign() < 0 {
		return 0
	}
	if n.Cmp(big.NewInt(top)) > 0 {
		return top
	}
	return int(n.Int64())
}

func large(n int) *big.Int { return big.NewInt(int64(n)) }

func fittedLarge(n int) *big.Int { return large(fitted(large(n))) }

func check(t *testing.T, call string, got, want int, args ...int) {
	t.Helper()
	if got != want {
		t.Fatalf("%s%v is %d, not %d", call, args, got, want)
	}
}

func TestSa1LimitIsTheGivenOne(t *testing.T) {
	check(t, "MaxTick", api.MaxTick, top)
}

func TestSa1FitByHand(t *testing.T) {
	for _, c := range [][2]int{
		{0, 0}, {1, 1}, {7, 7}, {-1, 0}, {-7, 0}, {12345, 12345},
		{top - 1, top - 1}, {top, top}, {top + 1, top}, {-top, 0},
		{math.MaxInt, top}, {math.MinInt, 0}, {math.MaxInt - 1, top}, {math.MinInt + 1, 0},
	} {
		check(t, "Fit", sat.Fit(c[0]), c[1], c[0])
	}
}

func TestSa1AddByHand(t *testing.T) {
	for _, c := range [][3]int{
		{2, 3, 5}, {0, 0, 0}, {0, 9, 9}, {-9, 3, 3}, {3, -9, 3}, {-1, -1, 0},
		{top - 1, 0, top - 1}, {top - 1, 1, top}, {top - 1, 2, top}, {top, -1, top}, {top, 1, top}, {top, top, top},
		{top / 2, top/2 - 1, top - 1}, {top / 2, top / 2, top},
		{math.MaxInt, 1, top}, {math.MaxInt, math.MaxInt, top}, {math.MinInt, math.MinInt, 0},
		{math.MaxInt, math.MinInt, top}, {math.MinInt, -1, 0}, {math.MinInt, 5, 5},
	} {
		check(t, "Add", sat.Add(c[0], c[1]), c[2], c[0], c[1])
	}
}

func TestSa1SubByHand(t *testing.T) {
	for _, c := range [][3]int{
		{5, 3, 2}, {3, 5, 0}, {4, 4, 0}, {0, 0, 0}, {0, 1, 0}, {5, -3, 5}, {-5, 3, 0}, {-3, -5, 0},
		{top, 1, top - 1}, {top, top - 1, 1}, {top, top, 0}, {top - 1, top, 0}, {top + 5, 1, top - 1}, {top + 5, top + 3, 0},
		{math.MaxInt, 1, top - 1}, {math.MaxInt, math.MinInt, top}, {math.MinInt, math.MaxInt, 0},
		{5, math.MinInt, 5}, {0, math.MinInt, 0}, {math.MaxInt, math.MaxInt, 0}, {math.MinInt, math.MinInt, 0},
	} {
		check(t, "Sub", sat.Sub(c[0], c[1]), c[2], c[0], c[1])
	}
}

func TestSa1MulByHand(t *testing.T) {
	for _, c := range [][3]int{
		{6, 7, 42}, {0, 7, 0}, {7, 0, 0}, {0, 0, 0}, {1, 1, 1}, {-3, 4, 0}, {3, -4, 0}, {-3, -4, 0},
		{1 << 20, 1 << 20, top}, {1 << 20, 1<<20 - 1, top - 1<<20}, {1 << 20, 1<<20 + 1, top}, {1<<20 - 1, 1<<20 + 1, top - 1},
		{3, top / 3, top - 1}, {3, top/3 + 1, top}, {2, top / 2, top}, {2, top/2 - 1, top - 2},
		{1, top - 1, top - 1}, {1, top, top}, {1, top + 1, top}, {0, top, 0}, {top, top, top},
		{1 << 32, 1 << 32, top}, {1 << 31, 1 << 32, top}, {1<<32 + 1, 1 << 32, top}, {1 << 24, top, top},
		{math.MaxInt, math.MaxInt, top}, {math.MaxInt, 0, 0}, {math.MinInt, math.MinInt, 0}, {math.MinInt, -1, 0}, {math.MinInt, 7, 0}, {math.MaxInt, 1, top},
	} {
		check(t, "Mul", sat.Mul(c[0], c[1]), c[2], c[0], c[1])
	}
}

func TestSa1AgainstLargeNumbers(t *testing.T) {
	for _, a := range numbers() {
		check(t, "Fit", sat.Fit(a), fitted(large(a)), a)
		x := fittedLarge(a)
		for _, b := range numbers() {
			y := fittedLarge(b)
			check(t, "Add", sat.Add(a, b), fitted(new(big.Int).Add(x, y)), a, b)
			check(t, "Sub", sat.Sub(a, b), fitted(new(big.Int).Sub(x, y)), a, b)
			check(t, "Mul", sat.Mul(a, b), fitted(new(big.Int).Mul(x, y)), a, b)
		}
	}
}

func TestSa2TwiceByHand(t *testing.T) {
	for _, c := range [][3]int{
		{3, 2, 12}, {3, 1, 6}, {3, 0, 3}, {3, -1, 3}, {5, math.MinInt, 5}, {1, 10, 1024},
		{1, 39, top / 2}, {1, 40, top}, {1, 41, top}, {1, 63, top}, {1, 64, top}, {1, math.MaxInt, top},
		{3, 38, 3 << 38}, {3, 39, top}, {top / 2, 1, top}, {top/2 - 1, 1, top - 2}, {top/2 + 1, 1, top}, {top - 1, 0, top - 1}, {top - 1, 1, top}, {top, 0, top}, {top, 1, top}, {top + 1, -1, top},
		{0, 0, 0}, {0, 1, 0}, {0, 64, 0}, {0, math.MaxInt, 0}, {-1, 3, 0}, {-1, 0, 0}, {-1, math.MinInt, 0},
		{math.MaxInt, 0, top}, {math.MaxInt, math.MaxInt, top}, {math.MinInt, 0, 0}, {math.MinInt, math.MaxInt, 0},
	} {
		check(t, "Twice", sat.Twice(c[0], c[1]), c[2], c[0], c[1])
	}
}

func TestSa2AgainstLargeNumbers(t *testing.T) {
	for _, a := range numbers() {
		for _, k := range counts() {
			// Beyond 64 doublings nothing but 0 and MaxTick is left.
			shift := uint(min(max(k, 0), 64))
			check(t, "Twice", sat.Twice(a, k), fitted(new(big.Int).Lsh(fittedLarge(a), shift)), a, k)
		}
	}
}

func TestSa2OneDoublingMore(t *testing.T) {
	for _, a := range numbers() {
		for k := range 66 {
			once := sat.Twice(a, k)
			check(t, "Twice", sat.Twice(a, k+1), sat.Add(once, once), a, k+1)
		}
	}
}

func TestSa3Commutative(t *testing.T) {
	for _, a := range numbers() {
		for _, b := range numbers() {
			check(t, "Add", sat.Add(a, b), sat.Add(b, a), a, b)
			check(t, "Mul", sat.Mul(a, b), sat.Mul(b, a), a, b)
		}
	}
}

func TestSa3Associative(t *testing.T) {
	for _, a := range few() {
		for _, b := range few() {
			for _, c := range few() {
				check(t, "Add", sat.Add(sat.Add(a, b), c), sat.Add(a, sat.Add(b, c)), a, b, c)
				check(t, "Mul", sat.Mul(sat.Mul(a, b), c), sat.Mul(a, sat.Mul(b, c)), a, b, c)
			}
		}
	}
}

func TestSa3ProductOfASum(t *testing.T) {
	for _, a := range few() {
		for _, b := range few() {
			for _, c := range few() {
				check(t, "Mul", sat.Mul(a, sat.Add(b, c)), sat.Add(sat.Mul(a, b), sat.Mul(a, c)), a, b, c)
			}
		}
	}
}

func TestSa3NoDecrease(t *testing.T) {
	for _, a := range numbers() {
		for _, b := range numbers() {
			if a > b {
				continue
			}
			for _, c := range few() {
				if sat.Add(a, c) > sat.Add(b, c) || sat.Add(c, a) > sat.Add(c, b) {
					t.Fatalf("Add decreases from %d to %d with %d", a, b, c)
				}
				if sat.Mul(a, c) > sat.Mul(b, c) || sat.Mul(c, a) > sat.Mul(c, b) {
					t.Fatalf("Mul decreases from %d to %d with %d", a, b, c)
				}
			}
		}
	}
}

// The laws alone would hold for functions that always return 0: sums and products are those of numbers below the limit.
func TestSa3LawsByHand(t *testing.T) {
	check(t, "Add", sat.Add(sat.Add(2, 3), 4), 9)
	check(t, "Add", sat.Add(2, sat.Add(3, 4)), 9)
	check(t, "Mul", sat.Mul(sat.Mul(2, 3), 4), 24)
	check(t, "Mul", sat.Mul(2, sat.Mul(3, 4)), 24)
	check(t, "Mul", sat.Mul(2, sat.Add(3, 4)), 14)
	check(t, "Add", sat.Add(sat.Mul(2, 3), sat.Mul(2, 4)), 14)
	check(t, "Add", sat.Add(sat.Add(top, -5), 5), top)
	check(t, "Mul", sat.Mul(sat.Mul(top, top), 0), 0)
	check(t, "Mul", sat.Mul(sat.Add(top, 5), 1), top)
}
