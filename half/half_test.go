package half_test

import (
	"math"
	"math/big"
	"testing"

	"doorman/api"
	"doorman/half"
)

const (
	topTick   = 1 << 40
	topSpan   = 1 << 30
	topPoints = 1 << 40
)

// trial is a call, and what it has to answer.
type trial struct {
	s         api.Score
	half, now int
	want      api.Score
}

func score(points, at int) api.Score { return api.Score{Points: points, At: at} }

func try(t *testing.T, c trial) {
	t.Helper()
	if got := half.Decay(c.s, c.half, c.now); got != c.want {
		t.Fatalf("Decay(%v, %d, %d) is %v, not %v", c.s, c.half, c.now, got, c.want)
	}
	if got := half.Left(c.s, c.half, c.now); got != c.want.Points {
		t.Fatalf("Left(%v, %d, %d) is %d, not %d", c.s, c.half, c.now, got, c.want.Points)
	}
}

func tryAll(t *testing.T, l []trial) {
	t.Helper()
	for _, c := range l {
		try(t, c)
	}
}

// limited is a number of any length, brought within bounds.
func limited(n, low, high int) *big.Int {
	switch {
	case n < low:
		return big.NewInt(int64(low))
	case n > high:
		return big.NewInt(int64(high))
	}
	return big.NewInt(int64(n))
}

// expected calculates the promise's result in numbers of any length: points are divided by a power of two, not shifted.
func expected(s api.Score, life, now int) api.Score {
	span := limited(life, 1, topSpan)
	points := limited(s.Points, 0, topPoints)
	at, to := limited(s.At, 0, topTick), limited(now, 0, topTick)
	k := new(big.Int)
	if to.Cmp(at) > 0 {
		k.Div(new(big.Int).Sub(to, at), span)
	}
	// 41 halves leave nothing of MaxPoints, so that the power need not become greater.
	often := min(k.Int64(), 50)
	power := new(big.Int).Exp(big.NewInt(2), big.NewInt(often), nil)
	points.Div(points, power)
	at.Add(at, k.Mul(k, span))
	return score(int(points.Int64()), int(at.Int64()))
}

// compare holds a call against the calculation.
func compare(t *testing.T, s api.Score, life, now int) {
	t.Helper()
	try(t, trial{s, life, now, expected(s, life, now)})
}

// around are numbers of both signs at each power of two and at the limits.
func around() []int {
	l := []int{math.MinInt, math.MinInt + 1, math.MaxInt - 1, math.MaxInt, 0, 3, 7, 10, 97, 1000, 12345, 999999999999}
	for i := range 63 {
		p := 1 << i
		l = append(l, p-1, p, p+1, -p-1, -p, 1-p)
	}
	return l
}

// few are short enough for all combinations of four.
func few() []int {
	return []int{math.MinInt, -topTick, -7, -1, 0, 1, 2, 3, 7, 10, 40, 41, 1000, topSpan - 1, topSpan, topSpan + 1, 1<<31 + 1, 1<<32 + 1,
		999999999999, topTick - topSpan, topTick - 1, topTick, topTick + 1, 1<<41 + 5, math.MaxInt}
}

func TestHa1LimitsAreTheGivenOnes(t *testing.T) {
	if api.MaxTick != topTick || api.MaxSpan != topSpan || api.MaxPoints != topPoints {
		t.Fatal("other limits than the document's")
	}
}

func TestHa1ExampleOfTheChapter(t *testing.T) {
	try(t, trial{score(100, 0), 10, 25, score(25, 20)})
}

func TestHa1ByHand(t *testing.T) {
	tryAll(t, []trial{
		{score(0, 0), 10, 0, score(0, 0)},
		{score(0, 3), 10, 34, score(0, 33)},
		{score(100, 0), 10, 0, score(100, 0)},
		{score(100, 0), 10, 9, score(100, 0)},
		{score(100, 0), 10, 10, score(50, 10)},
		{score(100, 0), 10, 11, score(50, 10)},
		{score(100, 0), 10, 19, score(50, 10)},
		{score(100, 0), 10, 20, score(25, 20)},
		{score(100, 0), 10, 29, score(25, 20)},
		{score(100, 0), 10, 30, score(12, 30)},
		{score(100, 0), 10, 40, score(6, 40)},
		{score(100, 0), 10, 50, score(3, 50)},
		{score(100, 0), 10, 60, score(1, 60)},
		{score(100, 0), 10, 69, score(1, 60)},
		{score(100, 0), 10, 70, score(0, 70)},
		{score(100, 0), 10, 1005, score(0, 1000)},
		{score(100, 7), 10, 16, score(100, 7)},
		{score(100, 7), 10, 17, score(50, 17)},
		{score(100, 7), 10, 26, score(50, 17)},
		{score(100, 7), 10, 27, score(25, 27)},
		{score(101, 5), 1, 6, score(50, 6)},
		{score(1, 5), 1, 6, score(0, 6)},
		{score(3*api.One, 100), 60, 160, score(3*api.One/2, 160)},
		{score(3*api.One, 100), 60, 400, score(6144, 400)},
	})
}

func TestHa1OddPointsAreRoundedDownEachTime(t *testing.T) {
	tryAll(t, []trial{
		{score(7, 0), 1, 1, score(3, 1)},
		{score(7, 0), 1, 2, score(1, 2)},
		{score(7, 0), 1, 3, score(0, 3)},
		{score(1023, 0), 4, 20, score(31, 20)},
		{score(topPoints-1, 0), 4, 4, score(1<<39-1, 4)},
		{score(topPoints-1, 0), 4, 159, score(1, 156)},
		{score(topPoints-1, 0), 4, 160, score(0, 160)},
	})
}

func TestHa1NothingHappensBeforeAt(t *testing.T) {
	tryAll(t, []trial{
		{score(101, 7), 10, 7, score(101, 7)},
		{score(101, 7), 10, 6, score(101, 7)},
		{score(101, 7), 1, 6, score(101, 7)},
		{score(101, 7), 1, 0, score(101, 7)},
		{score(101, 1000), 10, 3, score(101, 1000)},
		{score(101, topTick), 1, 0, score(101, topTick)},
		{score(101, topTick), 1, topTick - 1, score(101, topTick)},
		{score(101, topTick), 1, topTick, score(101, topTick)},
		{score(101, topTick), 1, topTick + 1, score(101, topTick)},
	})
}

func TestHa1HalfIsLimited(t *testing.T) {
	tryAll(t, []trial{
		{score(8, 0), 1, 2, score(2, 2)},
		{score(8, 0), 0, 2, score(2, 2)},
		{score(8, 0), -1, 2, score(2, 2)},
		{score(8, 0), -2, 2, score(2, 2)},
		{score(8, 0), -topSpan, 2, score(2, 2)},
		{score(8, 0), math.MinInt, 2, score(2, 2)},
		{score(8, 0), math.MinInt + 1, 2, score(2, 2)},
		{score(8, 0), 2, 2, score(4, 2)},
		{score(8, 0), topSpan - 1, topSpan - 2, score(8, 0)},
		{score(8, 0), topSpan - 1, topSpan - 1, score(4, topSpan-1)},
		{score(8, 0), topSpan, topSpan - 1, score(8, 0)},
		{score(8, 0), topSpan, topSpan, score(4, topSpan)},
		{score(8, 0), topSpan + 1, topSpan - 1, score(8, 0)},
		{score(8, 0), topSpan + 1, topSpan, score(4, topSpan)},
		{score(8, 0), 1 << 31, 1 << 31, score(2, 1<<31)},
		{score(8, 0), 1 << 32, topSpan, score(4, topSpan)},
		{score(8, 0), 1<<32 + 1, topSpan, score(4, topSpan)},
		{score(8, 0), topTick, topSpan, score(4, topSpan)},
		{score(8, 0), math.MaxInt, topSpan, score(4, topSpan)},
		{score(8, 5), math.MaxInt, topSpan + 4, score(8, 5)},
		{score(8, 5), math.MaxInt, topSpan + 5, score(4, topSpan+5)},
		{score(8, 0), math.MaxInt, topTick, score(0, topTick)},
	})
}

func TestHa1TicksAreLimited(t *testing.T) {
	tryAll(t, []trial{
		{score(8, 0), 5, -1, score(8, 0)},
		{score(8, 0), 5, math.MinInt, score(8, 0)},
		{score(8, -1), 5, 0, score(8, 0)},
		{score(8, -1), 5, 4, score(8, 0)},
		{score(8, -1), 5, 5, score(4, 5)},
		{score(8, -5), 5, 4, score(8, 0)},
		{score(8, -1000), 5, -1, score(8, 0)},
		{score(8, -1000), 5, math.MinInt, score(8, 0)},
		{score(8, math.MinInt), 5, 5, score(4, 5)},
		{score(8, math.MinInt), 5, math.MaxInt, score(0, topTick-1)},
		{score(8, topTick-1), 1, topTick - 1, score(8, topTick-1)},
		{score(8, topTick-1), 1, topTick, score(4, topTick)},
		{score(8, topTick-1), 1, topTick + 1, score(4, topTick)},
		{score(8, topTick-1), 1, math.MaxInt, score(4, topTick)},
		{score(8, topTick-2), 1, math.MaxInt, score(2, topTick)},
		{score(8, topTick), 1, math.MaxInt, score(8, topTick)},
		{score(8, topTick+1), 1, math.MaxInt, score(8, topTick)},
		{score(8, topTick+1), 1, 0, score(8, topTick)},
		{score(8, math.MaxInt), 1, math.MaxInt, score(8, topTick)},
		{score(8, math.MaxInt), 1, math.MinInt, score(8, topTick)},
		{score(8, topTick-10), 10, topTick + 9, score(4, topTick)},
		{score(8, topTick-9), 10, topTick + 9, score(8, topTick-9)},
	})
}

func TestHa1PointsAreLimited(t *testing.T) {
	tryAll(t, []trial{
		{score(-1, 0), 5, 0, score(0, 0)},
		{score(-1, 0), 5, 12, score(0, 10)},
		{score(-7, 3), 5, 3, score(0, 3)},
		{score(math.MinInt, 3), 5, 13, score(0, 13)},
		{score(topPoints-1, 0), 5, 0, score(topPoints-1, 0)},
		{score(topPoints, 0), 5, 0, score(topPoints, 0)},
		{score(topPoints+1, 0), 5, 0, score(topPoints, 0)},
		{score(topPoints, 0), 5, 5, score(1<<39, 5)},
		{score(topPoints+2, 0), 5, 5, score(1<<39, 5)},
		{score(1<<41, 0), 5, 5, score(1<<39, 5)},
		{score(1<<41, -4), 0, -1, score(topPoints, 0)},
		{score(math.MaxInt, 0), 5, 0, score(topPoints, 0)},
		{score(math.MaxInt, 0), 5, 4, score(topPoints, 0)},
		{score(math.MaxInt, 0), 5, 9, score(1<<39, 5)},
		{score(math.MaxInt, 0), 5, 10, score(1<<38, 10)},
	})
}

// Great numbers of half-lives are those that a smaller kind of number, or a shift by the last bits only, would mistake for few.
func TestHa1ManyHalfLives(t *testing.T) {
	for k := range 200 {
		want := 0
		if k <= 40 {
			want = 1 << (40 - k)
		}
		try(t, trial{score(topPoints, 9), 7, 9 + 7*k, score(want, 9+7*k)})
		try(t, trial{score(topPoints, 9), 7, 9 + 7*k + 6, score(want, 9+7*k)})
	}
	for i := 6; i <= 40; i++ {
		for _, k := range []int{1<<i - 1, 1 << i, 1<<i + 1} {
			try(t, trial{score(topPoints, 0), 1, k, score(0, min(k, topTick))})
		}
	}
}

func TestHa1OneFieldOrArgumentAtATime(t *testing.T) {
	for _, n := range around() {
		compare(t, score(n, 20), 10, 43)
		compare(t, score(n, 0), 1, 0)
		compare(t, score(12345, n), 10, 43)
		compare(t, score(12345, n), topSpan, topTick)
		compare(t, score(12345, 20), n, 43)
		compare(t, score(topPoints, 20), n, topTick)
		compare(t, score(12345, 20), 10, n)
		compare(t, score(topPoints, 0), topSpan, n)
	}
}

func TestHa1AllOfTheFew(t *testing.T) {
	l := few()
	for _, points := range l {
		for _, at := range l {
			for _, life := range l {
				for _, now := range l {
					s := score(points, at)
					want := expected(s, life, now)
					if half.Decay(s, life, now) != want || half.Left(s, life, now) != want.Points {
						try(t, trial{s, life, now, want})
					}
				}
			}
		}
	}
}

func TestHa1AllSmallNumbers(t *testing.T) {
	for _, points := range []int{0, 1, 2, 3, 12, 100, 255} {
		for at := -2; at <= 12; at++ {
			for life := -1; life <= 9; life++ {
				want := score(points, max(at, 0))
				for now := -2; now <= 60; now++ {
					// A walk tick by tick, instead of a division.
					for now-want.At >= max(life, 1) {
						want = score(want.Points/2, want.At+max(life, 1))
					}
					try(t, trial{score(points, at), life, now, want})
				}
			}
		}
	}
}

// draw is a plain sequence of numbers that is the same each time.
func draw(state *uint64) int {
	*state = *state*6364136223846793005 + 1442695040888963407
	return int(*state >> 8)
}

func TestHa1Mixed(t *testing.T) {
	state := uint64(15)
	spans := []int{3, 50, 1000, 1 << 20, topSpan + 5, topTick + 5}
	for i := range 100000 {
		points, at := draw(&state)%(topPoints+1000), draw(&state)%spans[i%6]
		life, now := draw(&state)%spans[i/6%5], draw(&state)%spans[i/30%6]
		compare(t, score(points, at), life, now)
	}
}

func TestHa2IntermediateDecaysChangeNothing(t *testing.T) {
	l := few()
	for _, points := range []int{-1, 0, 1, 7, 1000, topPoints - 1, topPoints, math.MaxInt} {
		for _, at := range l {
			for _, life := range l {
				s := score(points, at)
				for i, to := range l {
					between := half.Decay(s, life, to)
					for _, later := range l[i:] {
						once, twice := half.Decay(s, life, later), half.Decay(between, life, later)
						if once != twice {
							t.Fatalf("%v with %d: %v at %d, but %v by way of %d", s, life, once, later, twice, to)
						}
					}
				}
			}
		}
	}
}

func TestHa2DecaysTickByTick(t *testing.T) {
	for _, points := range []int{1, 2, 3, 100, 101, 1<<20 - 1, topPoints - 1, topPoints} {
		for life := range 12 {
			s := score(points, 4)
			walked := s
			for now := range 150 {
				walked = half.Decay(walked, life, now)
				if once := half.Decay(s, life, now); once != walked || half.Left(walked, life, now) != once.Points {
					t.Fatalf("%v with %d at %d is %v, and tick by tick %v", s, life, now, once, walked)
				}
			}
		}
	}
}

func TestHa2DecayedTwiceAtOneTickIsDecayedOnce(t *testing.T) {
	l := few()
	for _, at := range l {
		for _, life := range l {
			for _, now := range l {
				once := half.Decay(score(12345, at), life, now)
				try(t, trial{once, life, now, once})
			}
		}
	}
}

func TestHa2PointsNeverIncreaseWithTime(t *testing.T) {
	l := few()
	for _, points := range l {
		for _, at := range l {
			for _, life := range l {
				before := score(topPoints, 0)
				// few is in order, so that each tick is at or after the one before it.
				for _, now := range l {
					s := half.Decay(score(points, at), life, now)
					if s.Points > before.Points || s.At < before.At || s.Points < 0 || s.At > topTick {
						t.Fatalf("{%d %d} with %d is %v at %d, and %v before", points, at, life, s, now, before)
					}
					before = s
				}
			}
		}
	}
}

func TestHa2FewIsInOrder(t *testing.T) {
	l := few()
	for i := 1; i < len(l); i++ {
		if l[i-1] >= l[i] {
			t.Fatal(l[i-1], l[i])
		}
	}
}
