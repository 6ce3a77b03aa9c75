package backoff_test

import (
	"math"
	"math/big"
	"sync"
	"testing"

	"doorman/api"
	"doorman/backoff"
	"doorman/sat"
)

const (
	topTick  = 1 << 40
	topSpan  = 1 << 30
	topFails = 1000
)

// conf has the three numbers that this layer goes by.
func conf(base, limit, jitter int) api.Conf {
	return api.Conf{Base: base, Cap: limit, Jitter: jitter}
}

func checkDelay(t *testing.T, c api.Conf, fails, want int) {
	t.Helper()
	if got := backoff.Delay(c, fails); got != want {
		t.Fatalf("Delay(%+v, %d) is %d, not %d", c, fails, got, want)
	}
}

func checkJitter(t *testing.T, c api.Conf, j, want int) {
	t.Helper()
	if got := backoff.Jitter(c, j); got != want {
		t.Fatalf("Jitter(%+v, %d) is %d, not %d", c, j, got, want)
	}
}

func checkNext(t *testing.T, c api.Conf, fails, now, j, want int) {
	t.Helper()
	if got := backoff.Next(c, fails, now, j); got != want {
		t.Fatalf("Next(%+v, %d, %d, %d) is %d, not %d", c, fails, now, j, got, want)
	}
}

func large(n int) *big.Int { return big.NewInt(int64(n)) }

// fitted limits a number of any length to the ticks.
func fitted(n *big.Int) *big.Int {
	switch {
	case n.Sign() < 0:
		return large(0)
	case n.Cmp(large(topTick)) > 0:
		return large(topTick)
	}
	return n
}

// expectedDelay calculates Delay in numbers of any length: a power of two instead of doublings.
func expectedDelay(c api.Conf, fails int) *big.Int {
	if fails < 1 {
		return large(0)
	}
	// 60 doublings bring each number but 0 beyond MaxTick, so that the power need not become greater.
	n := new(big.Int).Lsh(fitted(large(c.Base)), uint(min(fails-1, 60)))
	if most := fitted(large(c.Cap)); n.Cmp(most) > 0 {
		return most
	}
	return n
}

// expectedJitter calculates Jitter in numbers of any length: there Mod leaves no rest below 0.
func expectedJitter(c api.Conf, j int) *big.Int {
	if c.Jitter < 1 {
		return large(0)
	}
	return new(big.Int).Mod(large(j), large(c.Jitter))
}

// expectedNext calculates Next in numbers of any length. Nothing in the sum is below 0, so that one limit at its end is enough.
func expectedNext(c api.Conf, fails, now, j int) *big.Int {
	n := new(big.Int).Add(fitted(large(now)), expectedDelay(c, fails))
	return fitted(n.Add(n, expectedJitter(c, j)))
}

// compare holds all three against the calculations.
func compare(t *testing.T, c api.Conf, fails, now, j int) {
	t.Helper()
	checkDelay(t, c, fails, int(expectedDelay(c, fails).Int64()))
	checkJitter(t, c, j, int(expectedJitter(c, j).Int64()))
	checkNext(t, c, fails, now, j, int(expectedNext(c, fails, now, j).Int64()))
}

// around are numbers of both signs at each power of two and at the limits, rising.
func around() []int {
	l := []int{math.MinInt, math.MinInt + 1, math.MinInt + 2}
	for i := 62; i >= 2; i-- {
		p := -1 << i
		l = append(l, p-1, p, p+1)
	}
	l = append(l, -2, -1, 0, 1, 2)
	for i := 2; i < 63; i++ {
		p := 1 << i
		l = append(l, p-1, p, p+1)
		if i == 9 {
			l = append(l, topFails-1, topFails, topFails+1)
		}
	}
	return append(l, math.MaxInt-2, math.MaxInt-1, math.MaxInt)
}

// few are rising, and short enough for all combinations of several.
func few() []int {
	return []int{math.MinInt, -topTick, -7, -1, 0, 1, 2, 3, 7, 10, 97, topSpan - 1, topSpan, topSpan + 1,
		topTick - 1, topTick, topTick + 1, 1<<62 + 5, math.MaxInt}
}

// counts are numbers of failures, rising: among them those that a number of 8, 16 or 32 bits would mistake for small ones.
func counts() []int {
	l := []int{math.MinInt, math.MinInt + 1, -1 << 32, -256, -65, -64, -2, -1}
	for n := range 70 {
		l = append(l, n)
	}
	return append(l, 127, 128, 129, 255, 256, 257, 258, topFails-1, topFails, topFails+1, 1<<16, 1<<16+1, 1<<16+2,
		1<<31, 1<<32, 1<<32+1, 1<<32+2, 1<<62, math.MaxInt-1, math.MaxInt)
}

func TestBk1LimitsAreTheGivenOnes(t *testing.T) {
	if api.MaxTick != topTick || api.MaxSpan != topSpan || api.MaxFails != topFails {
		t.Fatal("other limits than the document's")
	}
}

func TestBk1ExampleOfTheChapter(t *testing.T) {
	for i, want := range []int{2, 4, 8, 10, 10} {
		checkDelay(t, conf(2, 10, 0), i+1, want)
	}
}

// Chapter 25's example and the document's eighth one go by this layer.
func TestBk1ExamplesOfOtherChapters(t *testing.T) {
	checkNext(t, conf(2, 10, 0), 2, 100, 0, 104)
	checkNext(t, conf(2, 10, 4), 1, 10, 3, 15)
}

func TestBk1DelayByHand(t *testing.T) {
	for _, c := range []struct{ base, limit, fails, want int }{
		{3, 100, 1, 3}, {3, 100, 2, 6}, {3, 100, 3, 12}, {3, 100, 4, 24}, {3, 100, 5, 48}, {3, 100, 6, 96}, {3, 100, 7, 100}, {3, 100, 8, 100},
		{3, 96, 5, 48}, {3, 96, 6, 96}, {3, 96, 7, 96}, {3, 95, 5, 48}, {3, 95, 6, 95}, {3, 97, 6, 96}, {3, 97, 7, 97},
		{1, 1000, 10, 512}, {1, 1000, 11, 1000}, {1, 1, 1, 1}, {1, 1, 2, 1}, {1, 2, 1, 1}, {1, 2, 2, 2},
		{10, 10, 1, 10}, {10, 10, 2, 10}, {10, 9, 1, 9}, {10, 1, 1, 1}, {10, 11, 1, 10}, {10, 11, 2, 11},
		{60, 3600, 1, 60}, {60, 3600, 6, 1920}, {60, 3600, 7, 3600}, {60, 3600, topFails, 3600},
		{7, 0, 1, 0}, {7, 0, 9, 0}, {0, 7, 1, 0}, {0, 7, 9, 0}, {0, 0, 1, 0},
	} {
		checkDelay(t, conf(c.base, c.limit, 5), c.fails, c.want)
	}
}

func TestBk1NoDelayWithoutFailures(t *testing.T) {
	for _, fails := range []int{0, -1, -2, -64, -topFails, -1 << 31, -1 << 32, math.MinInt + 1, math.MinInt} {
		for _, n := range []int{1, 2, 10, topSpan, topTick, math.MaxInt} {
			checkDelay(t, conf(n, n, n), fails, 0)
		}
	}
}

func TestBk1NumbersOfFailures(t *testing.T) {
	for _, c := range []struct{ fails, want int }{
		{1, 1}, {2, 2}, {31, 1 << 30}, {32, 1 << 31}, {33, 1 << 32}, {34, 1 << 33}, {40, 1 << 39}, {41, topTick}, {42, topTick},
		{63, topTick}, {64, topTick}, {65, topTick}, {66, topTick}, {129, topTick}, {256, topTick}, {257, topTick}, {258, topTick},
		{topFails - 1, topTick}, {topFails, topTick}, {topFails + 1, topTick}, {1 << 16, topTick}, {1<<16 + 1, topTick},
		{1 << 32, topTick}, {1<<32 + 1, topTick}, {1<<32 + 2, topTick}, {math.MaxInt - 1, topTick}, {math.MaxInt, topTick},
	} {
		checkDelay(t, conf(1, topTick, 0), c.fails, c.want)
		checkDelay(t, conf(1, topSpan, 0), c.fails, min(c.want, topSpan))
	}
}

func TestBk1BaseIsLimited(t *testing.T) {
	for _, c := range []struct{ base, first, second int }{
		{math.MinInt, 0, 0}, {math.MinInt + 1, 0, 0}, {-topTick, 0, 0}, {-7, 0, 0}, {-1, 0, 0}, {0, 0, 0}, {1, 1, 2},
		{topSpan - 1, topSpan - 1, 2*topSpan - 2}, {topSpan, topSpan, 2 * topSpan}, {topSpan + 1, topSpan + 1, 2*topSpan + 2},
		{topTick/2 - 1, topTick/2 - 1, topTick - 2}, {topTick / 2, topTick / 2, topTick}, {topTick/2 + 1, topTick/2 + 1, topTick},
		{topTick - 1, topTick - 1, topTick}, {topTick, topTick, topTick}, {topTick + 1, topTick, topTick},
		{1 << 62, topTick, topTick}, {1<<62 + 1, topTick, topTick}, {math.MaxInt, topTick, topTick},
	} {
		checkDelay(t, conf(c.base, topTick, 0), 1, c.first)
		checkDelay(t, conf(c.base, topTick, 0), 2, c.second)
		checkDelay(t, conf(c.base, math.MaxInt, 0), 2, c.second)
	}
}

func TestBk1CapIsLimited(t *testing.T) {
	for _, c := range []struct{ limit, want int }{
		{math.MinInt, 0}, {math.MinInt + 1, 0}, {-topTick, 0}, {-1 << 32, 0}, {-10, 0}, {-1, 0}, {0, 0}, {1, 1}, {10, 10},
		{topSpan - 1, topSpan - 1}, {topSpan, topSpan}, {topSpan + 1, topSpan + 1}, {1<<32 + 1, 1<<32 + 1},
		{topTick - 1, topTick - 1}, {topTick, topTick}, {topTick + 1, topTick}, {1 << 62, topTick}, {math.MaxInt, topTick},
	} {
		checkDelay(t, conf(math.MaxInt, c.limit, 0), 1, c.want)
		checkDelay(t, conf(3, c.limit, 0), 200, c.want)
		checkDelay(t, conf(3, c.limit, 0), math.MaxInt, c.want)
		checkDelay(t, conf(-3, c.limit, 0), math.MaxInt, 0)
	}
}

func TestBk1JitterByHand(t *testing.T) {
	for _, c := range []struct{ jitter, j, want int }{
		{4, 0, 0}, {4, 1, 1}, {4, 3, 3}, {4, 4, 0}, {4, 5, 1}, {4, 7, 3}, {4, 8, 0},
		{4, -1, 3}, {4, -2, 2}, {4, -3, 1}, {4, -4, 0}, {4, -5, 3}, {4, -8, 0}, {4, -9, 3},
		{10, 9, 9}, {10, 10, 0}, {10, 11, 1}, {10, 99, 9}, {10, -1, 9}, {10, -9, 1}, {10, -10, 0}, {10, -11, 9}, {10, -99, 1},
		{7, 6, 6}, {7, 7, 0}, {7, 13, 6}, {7, 700, 0}, {7, -6, 1}, {7, -7, 0}, {7, -8, 6}, {7, -700, 0},
		{1, 0, 0}, {1, 1, 0}, {1, 99, 0}, {1, -1, 0}, {1, -99, 0}, {2, 1, 1}, {2, 2, 0}, {2, -1, 1}, {2, -2, 0},
	} {
		checkJitter(t, conf(2, 10, c.jitter), c.j, c.want)
	}
}

func TestBk1NoJitterWithoutOneInTheConf(t *testing.T) {
	for _, jitter := range []int{0, -1, -2, -3, -4, -topSpan, -topTick, math.MinInt + 1, math.MinInt} {
		for _, j := range around() {
			checkJitter(t, conf(2, 10, jitter), j, 0)
		}
	}
}

// Neither j nor the Jitter of the conf is limited, unlike the other numbers.
func TestBk1JitterAtTheLimits(t *testing.T) {
	const most, least = math.MaxInt, math.MinInt
	for _, c := range []struct{ jitter, j, want int }{
		{1, most, 0}, {1, least, 0}, {2, most, 1}, {2, least, 0}, {3, most, 1}, {3, least, 1}, {3, least + 1, 2},
		{10, most, 7}, {10, least, 2}, {7, most, 0}, {7, least, 6}, {7, least + 1, 0},
		{topSpan, topSpan - 1, topSpan - 1}, {topSpan, topSpan, 0}, {topSpan, topSpan + 1, 1}, {topSpan, -1, topSpan - 1}, {topSpan, -topSpan, 0},
		{topTick, topTick - 1, topTick - 1}, {topTick, topTick, 0}, {topTick, topTick + 1, 1}, {topTick, -1, topTick - 1},
		{topTick + 9, topTick, topTick}, {topTick + 9, topTick + 8, topTick + 8}, {topTick + 9, topTick + 9, 0}, {topTick + 9, -1, topTick + 8},
		{5, topTick + 7, 3}, {5, 1<<41 + 1, 3}, {5, -topTick, 4},
		{1 << 32, 1<<32 + 6, 6}, {1 << 32, -6, 1<<32 - 6}, {1<<32 + 1, 1 << 32, 1 << 32},
		{1<<62 + 1, 1 << 62, 1 << 62}, {1<<62 + 1, 1<<62 + 1, 0}, {1<<62 + 1, most, 1<<62 - 2}, {1<<62 + 1, -1, 1 << 62}, {1<<62 + 1, -1 << 62, 1},
		{most - 1, most - 2, most - 2}, {most - 1, most - 1, 0}, {most - 1, most, 1}, {most - 1, least, most - 3},
		{most, 0, 0}, {most, 1, 1}, {most, most - 1, most - 1}, {most, most, 0},
		{most, -1, most - 1}, {most, -most, 0}, {most, least, most - 1}, {most, least + 1, 0}, {most, least + 2, 1},
	} {
		checkJitter(t, conf(2, 10, c.jitter), c.j, c.want)
	}
}

// A walk one by one, instead of a division.
func TestBk1JitterGoesRound(t *testing.T) {
	for jitter := 1; jitter <= 20; jitter++ {
		up, down := 0, 0
		for j := range 100 {
			checkJitter(t, conf(2, 10, jitter), j, up)
			checkJitter(t, conf(2, 10, jitter), -j, down)
			if up++; up == jitter {
				up = 0
			}
			if down--; down < 0 {
				down = jitter - 1
			}
		}
	}
}

func TestBk1NextByHand(t *testing.T) {
	c := conf(2, 10, 4)
	for _, x := range []struct{ fails, now, j, want int }{
		{0, 0, 0, 0}, {0, 100, 0, 100}, {0, 100, 3, 103}, {0, 100, 4, 100}, {0, 100, -1, 103}, {-1, 100, 3, 103}, {math.MinInt, 100, 2, 102},
		{1, 0, 0, 2}, {1, 100, 0, 102}, {1, 100, 1, 103}, {2, 100, 0, 104}, {2, 100, 7, 107}, {3, 100, 2, 110}, {4, 100, 3, 113}, {5, 100, 3, 113},
		{topFails, 100, 3, 113}, {math.MaxInt, 100, 3, 113}, {1, 1, -2, 5}, {1, 1, -4, 3}, {4, 0, -1, 13},
	} {
		checkNext(t, c, x.fails, x.now, x.j, x.want)
	}
	for _, x := range []struct{ base, limit, jitter, want int }{
		{60, 3600, 0, 320}, {60, 200, 0, 280}, {60, 3600, 50, 337}, {60, 200, 50, 297}, {60, 3600, -50, 320}, {0, 3600, 50, 97}, {60, 0, 50, 97},
		{-60, 3600, 50, 97}, {60, -1, 50, 97}, {0, 0, 0, 80}, {-1, -1, -1, 80},
	} {
		checkNext(t, conf(x.base, x.limit, x.jitter), 3, 80, 17, x.want)
	}
}

func TestBk1NowIsLimited(t *testing.T) {
	c := conf(2, 10, 4)
	for _, x := range []struct{ now, want int }{
		{math.MinInt, 7}, {math.MinInt + 1, 7}, {-topTick, 7}, {-1 << 32, 7}, {-7, 7}, {-1, 7}, {0, 7}, {1, 8}, {1 << 32, 1<<32 + 7},
		{topTick - 8, topTick - 1}, {topTick - 7, topTick}, {topTick - 6, topTick}, {topTick - 4, topTick}, {topTick - 3, topTick},
		{topTick - 1, topTick}, {topTick, topTick}, {topTick + 1, topTick}, {1 << 62, topTick}, {math.MaxInt - 7, topTick}, {math.MaxInt, topTick},
	} {
		checkNext(t, c, 2, x.now, 3, x.want)
	}
}

// No sum runs over, whatever its terms are, and each of them alone may reach MaxTick.
func TestBk1NextAtTheLimits(t *testing.T) {
	const most, least = math.MaxInt, math.MinInt
	for _, x := range []struct{ base, limit, jitter, fails, now, j, want int }{
		{topTick, topTick, 0, 1, 0, 0, topTick}, {topTick, topTick, 0, 1, -5, 0, topTick}, {topTick, topTick, 5, 1, 0, 3, topTick},
		{topTick - 1, topTick, 0, 1, 0, 0, topTick - 1}, {topTick - 1, topTick, 0, 1, 1, 0, topTick}, {topTick - 1, topTick, 5, 1, 0, 1, topTick},
		{topTick - 9, topTick, 9, 1, 0, 8, topTick - 1}, {topTick - 9, topTick, 9, 1, 1, 8, topTick}, {topTick - 9, topTick, 9, 1, 2, 8, topTick},
		{0, 0, topTick, 1, 0, -1, topTick - 1}, {0, 0, topTick, 1, 1, -1, topTick}, {0, 0, topTick, 1, -1, -1, topTick - 1},
		{0, 0, topTick + 1, 1, 0, topTick, topTick}, {0, 0, topTick + 2, 1, 0, topTick + 1, topTick}, {0, 0, most, 0, 0, -1, topTick},
		{0, 0, most, 0, topTick, -1, topTick}, {1, 1, most, 1, 0, -1, topTick}, {1, 1, most, 1, 1, 2, 4}, {1, 1, most, 1, least, least, topTick},
		{most, most, most, most, most, most, topTick}, {most, most, most, most, most, -1, topTick}, {most, most, most, most, most, least, topTick},
		{most, most, most, most, least, least, topTick}, {most, most, most, least, least, -1, topTick}, {most, most, most, least, least, 0, 0},
		{least, least, least, least, least, least, 0}, {least, least, least, most, 7, most, 7}, {least, most, 0, most, -7, 0, 0}, {most, least, 0, most, -7, 0, 0},
		{topSpan, topSpan, topSpan, topFails, topTick - 2*topSpan, topSpan - 1, topTick - 1},
		{topSpan, topSpan, topSpan, topFails, topTick - 2*topSpan + 1, topSpan - 1, topTick},
	} {
		checkNext(t, conf(x.base, x.limit, x.jitter), x.fails, x.now, x.j, x.want)
	}
}

// Next is said to be chapter 1's sum of what the other two return.
func TestBk1NextIsTheSum(t *testing.T) {
	for _, base := range few() {
		for _, fails := range []int{-1, 0, 1, 2, 3, 39, topFails} {
			c := conf(base, topTick-base/2, base/3)
			for _, now := range few() {
				for _, j := range few() {
					d, x := backoff.Delay(c, fails), backoff.Jitter(c, j)
					checkNext(t, c, fails, now, j, sat.Add(sat.Add(now, d), x))
					checkNext(t, c, fails, now, j, sat.Add(now, sat.Add(d, x)))
				}
			}
		}
	}
}

func TestBk1OneFieldOrArgumentAtATime(t *testing.T) {
	for _, n := range around() {
		for _, fails := range []int{1, 2, 5, 40, 41, topFails} {
			compare(t, conf(n, topTick, 7), fails, 100, 17)
			compare(t, conf(n, 3600, 7), fails, 100, -17)
			compare(t, conf(60, n, 7), fails, 100, 17)
			compare(t, conf(topTick, n, 7), fails, 100, -17)
			compare(t, conf(60, 3600, 7), fails, n, 17)
			compare(t, conf(60, 3600, n), fails, 100, 17)
			compare(t, conf(60, 3600, n), fails, 100, -17)
			compare(t, conf(60, 3600, 7), fails, 100, n)
		}
		compare(t, conf(60, 3600, 7), n, 100, 17)
		compare(t, conf(1, topTick, 7), n, 100, 17)
		compare(t, conf(n, n, n), n, n, n)
	}
}

func TestBk1EachPair(t *testing.T) {
	for _, a := range around() {
		for _, b := range around() {
			checkDelay(t, conf(a, b, 7), 3, int(expectedDelay(conf(a, b, 7), 3).Int64()))
			checkJitter(t, conf(2, 10, a), b, int(expectedJitter(conf(2, 10, a), b).Int64()))
		}
		for _, fails := range counts() {
			checkDelay(t, conf(a, topTick, 7), fails, int(expectedDelay(conf(a, topTick, 7), fails).Int64()))
			checkDelay(t, conf(3, a, 7), fails, int(expectedDelay(conf(3, a, 7), fails).Int64()))
		}
	}
}

func TestBk1AllOfTheFew(t *testing.T) {
	l := few()
	for _, base := range l {
		for _, limit := range l {
			for _, fails := range []int{-1, 0, 1, 2, 11, topFails} {
				c := conf(base, limit, 3)
				d := expectedDelay(c, fails)
				checkDelay(t, c, fails, int(d.Int64()))
				for _, now := range l {
					for _, x := range []int{0, 1, 2} {
						want := new(big.Int).Add(fitted(large(now)), d)
						checkNext(t, c, fails, now, x, int(fitted(want.Add(want, large(x))).Int64()))
					}
				}
			}
		}
	}
}

// A walk of doublings, instead of a power.
func TestBk1AllSmallNumbers(t *testing.T) {
	for base := -2; base <= 12; base++ {
		for limit := -2; limit <= 40; limit++ {
			c, want := conf(base, limit, 6), max(base, 0)
			checkDelay(t, c, 0, 0)
			for fails := 1; fails <= 12; fails++ {
				d := min(max(limit, 0), want)
				checkDelay(t, c, fails, d)
				for now := -2; now <= 4; now++ {
					for j := -6; j <= 11; j++ {
						checkNext(t, c, fails, now, j, max(now, 0)+d+(j+6)%6)
					}
				}
				want += want
			}
		}
	}
}

// draw is a plain sequence of numbers that is the same each time.
func draw(state *uint64) int {
	*state = *state*6364136223846793005 + 1442695040888963407
	return int(*state >> 8)
}

func TestBk1Mixed(t *testing.T) {
	state := uint64(23)
	spans := []int{3, 50, 1000, 1 << 20, topSpan + 5, topTick + 5}
	for i := range 100000 {
		base, limit := draw(&state)%spans[i%6]-1, draw(&state)%spans[i/6%6]-1
		jitter, now := draw(&state)%spans[i/36%6]-1, draw(&state)%spans[i/7%6]-1
		compare(t, conf(base, limit, jitter), draw(&state)%50-2, now, draw(&state)-1<<55)
	}
}

// others are confs that agree with the given one in the three numbers of this layer only.
func others(c api.Conf) []api.Conf {
	var l []api.Conf
	for _, n := range []int{math.MinInt, -1, 1, 7, topTick, math.MaxInt} {
		o := api.Conf{MaxIn: n, MaxOut: n, Shards: n, MaxBans: n, MaxBook: n, Secret: uint64(n), Half: n, Limit: n, BanFor: n}
		o.Quota = api.Quota{Group: n, Ping: n, Work: n, Time: n}
		o.Base, o.Cap, o.Jitter = c.Base, c.Cap, c.Jitter
		l = append(l, o)
	}
	return l
}

func TestBk1GoesByThreeNumbersOfTheConf(t *testing.T) {
	for _, c := range []api.Conf{conf(0, 0, 0), conf(2, 10, 4), conf(60, 3600, 50), conf(topTick, math.MaxInt, -1)} {
		for _, o := range others(c) {
			for _, fails := range []int{0, 1, 3, topFails} {
				compare(t, o, fails, 100, -17)
				compare(t, c, fails, 100, -17)
			}
		}
	}
}

// Delay doesn't go by the Jitter, and Jitter doesn't go by the other two.
func TestBk1GoesByNoOtherNumber(t *testing.T) {
	for _, n := range around() {
		checkDelay(t, conf(3, 20, n), 3, 12)
		checkDelay(t, conf(3, 20, n), 4, 20)
		checkJitter(t, conf(n, 10, 4), 7, 3)
		checkJitter(t, conf(2, n, 4), -7, 1)
	}
}

// Many goroutines may ask at once; what one asks changes nothing for another one.
func TestBk1ManyGoroutines(t *testing.T) {
	var all sync.WaitGroup
	for g := range 16 {
		all.Go(func() {
			c := conf(g+1, 100, 9)
			for i := range 2000 {
				fails, want := i%9, 0
				if fails > 0 {
					want = min(100, (g+1)<<(fails-1))
				}
				if n := backoff.Delay(c, fails); n != want {
					t.Errorf("Delay(%+v, %d) is %d, not %d", c, fails, n, want)
				}
				if n := backoff.Jitter(c, i); n != i%9 {
					t.Errorf("Jitter(%+v, %d) is %d", c, i, n)
				}
				if n := backoff.Next(c, fails, i, i); n != i+want+i%9 {
					t.Errorf("Next(%+v, %d, %d, %d) is %d", c, fails, i, i, n)
				}
			}
		})
	}
	all.Wait()
}

func TestBk2MoreFailuresNeverLeadToAShorterDelay(t *testing.T) {
	for _, base := range around() {
		for _, limit := range few() {
			c, before := conf(base, limit, 7), 0
			// counts is in order, so that each number has as many failures as the one before it, or more.
			for _, fails := range counts() {
				d := backoff.Delay(c, fails)
				if d < before {
					t.Fatalf("Delay(%+v, %d) is %d, and %d with fewer failures", c, fails, d, before)
				}
				before = d
			}
		}
	}
}

func TestBk2MoreFailuresNeverLeadToAnEarlierNext(t *testing.T) {
	for _, base := range few() {
		for _, limit := range few() {
			for _, now := range few() {
				c, before := conf(base, limit, 7), 0
				for _, fails := range counts() {
					n := backoff.Next(c, fails, now, 40)
					if n < before {
						t.Fatalf("Next(%+v, %d, %d, 40) is %d, and %d with fewer failures", c, fails, now, n, before)
					}
					before = n
				}
			}
		}
	}
}

// Some do lead to a longer delay, so that the same delay each time would be wrong.
func TestBk2DelaysGrowUpToTheLimit(t *testing.T) {
	c := conf(5, 5<<20+1, 0)
	for fails := 1; fails <= 21; fails++ {
		if backoff.Delay(c, fails) <= backoff.Delay(c, fails-1) {
			t.Fatal(fails)
		}
	}
	for fails := 22; fails <= topFails+1; fails++ {
		checkDelay(t, c, fails, 5<<20+1)
	}
}

func TestBk2NoDelayIsLongerThanTheLimitAndTheAdditionalDelay(t *testing.T) {
	for _, base := range few() {
		for _, limit := range few() {
			for _, jitter := range few() {
				c := conf(base, limit, jitter)
				for _, fails := range []int{math.MinInt, 0, 1, 2, 41, topFails, math.MaxInt} {
					for _, j := range few() {
						lies(t, c, fails, j)
					}
				}
			}
		}
	}
}

// lies tells whether both delays, and the next tick, are from 0 up to what they may be.
func lies(t *testing.T, c api.Conf, fails, j int) {
	t.Helper()
	d, x := backoff.Delay(c, fails), backoff.Jitter(c, j)
	if d < 0 || d > sat.Fit(c.Cap) || x < 0 || x >= max(c.Jitter, 1) {
		t.Fatalf("Delay(%+v, %d) is %d, Jitter of %d is %d", c, fails, d, j, x)
	}
	for _, now := range []int{math.MinInt, -1, 0, 9, topTick - 9, topTick, math.MaxInt} {
		n := backoff.Next(c, fails, now, j)
		if n < sat.Fit(now) || n > sat.Add(now, sat.Add(c.Cap, c.Jitter)) {
			t.Fatalf("Next(%+v, %d, %d, %d) is %d", c, fails, now, j, n)
		}
	}
}

func TestBk2TheLongestDelay(t *testing.T) {
	c := conf(3, 500, 20)
	for _, j := range []int{19, 39, -1, -21} {
		checkNext(t, c, topFails, 1000, j, 1519)
	}
	for _, j := range []int{20, 40, 0, -20} {
		checkNext(t, c, topFails, 1000, j, 1500)
	}
}

func TestBk2NextIsNeverBeforeNow(t *testing.T) {
	for _, n := range around() {
		for _, fails := range counts() {
			for _, c := range []api.Conf{conf(2, 10, 4), conf(-2, 10, -4), conf(2, -10, 4), conf(math.MaxInt, math.MaxInt, math.MaxInt), conf(math.MinInt, math.MinInt, math.MinInt)} {
				for _, j := range []int{math.MinInt, -1, 0, 5, math.MaxInt} {
					got := backoff.Next(c, fails, n, j)
					if got < sat.Fit(n) || got > topTick || n <= topTick && got < n {
						t.Fatalf("Next(%+v, %d, %d, %d) is %d", c, fails, n, j, got)
					}
				}
			}
		}
	}
}

func TestBk2LaterIsNeverEarlier(t *testing.T) {
	for _, c := range []api.Conf{conf(2, 10, 4), conf(topSpan, topTick, topSpan), conf(math.MaxInt, math.MaxInt, math.MaxInt), conf(-2, 10, -4)} {
		for _, fails := range counts() {
			before := 0
			for _, now := range around() {
				n := backoff.Next(c, fails, now, -1)
				if n < before {
					t.Fatalf("Next(%+v, %d, %d, -1) is %d, and %d for an earlier tick", c, fails, now, n, before)
				}
				before = n
			}
		}
	}
}

func TestBk2ListsAreRising(t *testing.T) {
	for _, l := range [][]int{around(), few(), counts()} {
		for i := 1; i < len(l); i++ {
			if l[i-1] >= l[i] {
				t.Fatal(l[i-1], l[i])
			}
		}
	}
}
