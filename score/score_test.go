package score_test

import (
	"math"
	"math/big"
	"testing"

	"doorman/api"
	"doorman/half"
	"doorman/sat"
	"doorman/score"
)

const (
	one       = 1 << 16
	topTick   = 1 << 40
	topSpan   = 1 << 30
	topPoints = 1 << 40
	topLimit  = 1 << 24
)

// exact is a score by its field Points, of which each point has 2^16.
func exact(points, at int) api.Score { return api.Score{Points: points, At: at} }

// whole is a score of so many whole points.
func whole(points, at int) api.Score { return exact(points*one, at) }

// trial is a call of Add, and what it has to answer.
type trial struct {
	s                 api.Score
	points, half, now int
	want              api.Score
}

func try(t *testing.T, c trial) {
	t.Helper()
	if got := score.Add(c.s, c.points, c.half, c.now); got != c.want {
		t.Fatalf("Add(%v, %d, %d, %d) is %v, not %v", c.s, c.points, c.half, c.now, got, c.want)
	}
}

func tryAll(t *testing.T, l []trial) {
	t.Helper()
	for _, c := range l {
		try(t, c)
	}
}

func checkReached(t *testing.T, s api.Score, limit int, want bool) {
	t.Helper()
	if got := score.Reached(s, limit); got != want {
		t.Fatalf("Reached(%v, %d) is %v", s, limit, got)
	}
}

func checkWhole(t *testing.T, s api.Score, want int) {
	t.Helper()
	if got := score.Whole(s); got != want {
		t.Fatalf("Whole(%v) is %d, not %d", s, got, want)
	}
}

func large(n int) *big.Int { return big.NewInt(int64(n)) }

// limited is a number of any length, brought within bounds.
func limited(n *big.Int, low, high int) *big.Int {
	switch {
	case n.Cmp(large(low)) < 0:
		return large(low)
	case n.Cmp(large(high)) > 0:
		return large(high)
	}
	return n
}

// more calculates Add in numbers of any length, from what chapter 15 makes of the score.
func more(s api.Score, points, life, now int) api.Score {
	s = half.Decay(s, life, now)
	n := limited(large(points), 0, topTick)
	n = new(big.Int).Mul(n, large(one))
	n.Add(n, large(s.Points))
	return exact(int(limited(n, 0, topPoints).Int64()), s.At)
}

// enough calculates Reached in numbers of any length.
func enough(s api.Score, limit int) bool {
	n := limited(large(limit), 1, topLimit)
	n = new(big.Int).Mul(n, large(one))
	return large(s.Points).Cmp(n) >= 0
}

// around are ordinary numbers, and those of both signs at each power of two and at the limits.
func around() []int {
	l := []int{math.MinInt, math.MinInt + 1, math.MaxInt - 1, math.MaxInt, 0, 3, 7, 10, 97, 1000, 12345, 6553600, 999999999999}
	for i := range 63 {
		p := 1 << i
		l = append(l, p-1, p, p+1, -p-1, -p, 1-p)
	}
	return l
}

// few are rising, and short enough for all combinations of four.
func few() []int {
	return []int{math.MinInt, -topTick, -one, -1, 0, 1, 2, 7, 10, 41, 100, one - 1, one, one + 1, topLimit - 1, topLimit, topLimit + 1,
		topSpan - 1, topSpan, topSpan + 1, 1<<32 + 1, topTick - one, topTick - 1, topTick, topTick + 1, 1<<47 + 1, 1 << 48, math.MaxInt}
}

// amounts are contents of the field Points, rising.
func amounts() []int {
	return []int{math.MinInt, -one, 0, 1, one - 1, one, one + 1, 3*one + 5, 100 * one, topPoints - one - 1, topPoints - one, topPoints - 1, topPoints, topPoints + 1, math.MaxInt}
}

// ticks are rising.
func ticks() []int {
	return []int{math.MinInt, -1, 0, 1, 9, 10, 11, 19, 20, 25, 1000, topSpan - 1, topSpan, topTick - 10, topTick - 1, topTick, topTick + 1, math.MaxInt}
}

// lives are half-lives.
func lives() []int { return []int{math.MinInt, 0, 1, 2, 10, 1000, topSpan, topSpan + 1, math.MaxInt} }

// eachTime calls f for all combinations of a tick of a score, a half-life, and a tick at which points are added.
func eachTime(f func(at, life, now int)) {
	for _, at := range ticks() {
		for _, life := range lives() {
			for _, now := range ticks() {
				f(at, life, now)
			}
		}
	}
}

func TestSc1LimitsAreTheGivenOnes(t *testing.T) {
	if api.One != one || api.MaxTick != topTick || api.MaxSpan != topSpan || api.MaxPoints != topPoints {
		t.Fatal("other limits than the document's")
	}
}

func TestSc1PenaltyByHand(t *testing.T) {
	for kind, want := range map[int]int{1: 1, 2: 10, 3: 20, 4: 50, 5: 100} {
		if got := score.Penalty(kind); got != want {
			t.Fatalf("Penalty(%d) is %d, not %d", kind, got, want)
		}
	}
}

func TestSc1PenaltyOfOtherKindsIsNone(t *testing.T) {
	l := around()
	for kind := -2100; kind <= 2100; kind++ {
		l = append(l, kind)
	}
	// Behind each of these a smaller kind of number, or a rest of a division, begins with 0 again.
	for i := 3; i < 63; i++ {
		for kind := 1; kind <= 5; kind++ {
			l = append(l, 1<<i+kind, -1<<i+kind, math.MinInt+1<<i+kind)
		}
	}
	for _, kind := range l {
		if kind >= 1 && kind <= 5 {
			continue
		}
		if got := score.Penalty(kind); got != 0 {
			t.Fatalf("Penalty(%d) is %d", kind, got)
		}
	}
}

func TestSc1ExampleOfTheChapter(t *testing.T) {
	n := score.Penalty(4)
	once := score.Add(api.Score{}, n, 10, 5)
	checkReached(t, once, 100, false)
	checkReached(t, score.Add(once, n, 10, 5), 100, true)
	checkReached(t, score.Add(once, n, 10, 10), 100, false)
}

func TestSc1AddByHand(t *testing.T) {
	tryAll(t, []trial{
		{whole(0, 0), 0, 10, 0, whole(0, 0)},
		{whole(0, 0), 1, 10, 0, whole(1, 0)},
		{whole(0, 0), 100, 10, 0, whole(100, 0)},
		{whole(3, 0), 4, 10, 0, whole(7, 0)},
		{whole(3, 7), 4, 10, 7, whole(7, 7)},
		{whole(3, 7), 4, 10, 16, whole(7, 7)},
		{whole(3, 7), 4, 10, 17, exact(3*one/2+4*one, 17)},
		{whole(100, 0), 1, 10, 25, whole(26, 20)},
		{whole(100, 0), 0, 10, 25, whole(25, 20)},
		{whole(100, 0), 20, 10, 9, whole(120, 0)},
		{whole(100, 0), 20, 10, 10, whole(70, 10)},
		{whole(100, 0), 20, 10, 19, whole(70, 10)},
		{whole(100, 0), 20, 10, 20, whole(45, 20)},
		{whole(100, 0), 20, 10, 10000, whole(20, 10000)},
		{whole(0, 0), 20, 10, 34, whole(20, 30)},
		{exact(5, 0), 2, 10, 0, exact(2*one+5, 0)},
		{exact(5, 0), 2, 10, 10, exact(2*one+2, 10)},
		{exact(one-1, 0), 1, 10, 0, exact(2*one-1, 0)},
		{exact(1, 3), 1, 1, 4, exact(one, 4)},
	})
}

// The points that are added are whole, and do not decay at the tick itself; nor do those before it, if it lies before At.
func TestSc1AddAtAnEarlierTick(t *testing.T) {
	tryAll(t, []trial{
		{whole(8, 50), 5, 10, 50, whole(13, 50)},
		{whole(8, 50), 5, 10, 49, whole(13, 50)},
		{whole(8, 50), 5, 1, 40, whole(13, 50)},
		{whole(8, 50), 5, 1, 0, whole(13, 50)},
		{whole(8, 50), 5, 1, -1, whole(13, 50)},
		{whole(8, 50), 5, 1, math.MinInt, whole(13, 50)},
		{whole(8, topTick), 5, 1, 0, whole(13, topTick)},
	})
}

func TestSc1AddedPointsAreFitted(t *testing.T) {
	tryAll(t, []trial{
		{whole(8, 0), -1, 10, 0, whole(8, 0)},
		{whole(8, 0), -8, 10, 0, whole(8, 0)},
		{whole(8, 0), -100, 10, 10, whole(4, 10)},
		{whole(8, 0), -topTick, 10, 0, whole(8, 0)},
		{whole(8, 0), -1 << 48, 10, 0, whole(8, 0)},
		{whole(8, 0), math.MinInt, 10, 0, whole(8, 0)},
		{whole(8, 0), math.MinInt + 1, 10, 0, whole(8, 0)},
		{whole(0, 0), topTick - 1, 10, 0, exact(topPoints, 0)},
		{whole(0, 0), topTick, 10, 0, exact(topPoints, 0)},
		{whole(0, 0), topTick + 1, 10, 0, exact(topPoints, 0)},
		{whole(0, 0), 1 << 46, 10, 0, exact(topPoints, 0)},
		{whole(0, 0), 1 << 47, 10, 0, exact(topPoints, 0)},
		{whole(0, 0), 1<<47 + 3, 10, 0, exact(topPoints, 0)},
		{whole(0, 0), 1 << 48, 10, 0, exact(topPoints, 0)},
		{whole(0, 0), 1<<48 + 1, 10, 0, exact(topPoints, 0)},
		{whole(0, 0), 1 << 62, 10, 0, exact(topPoints, 0)},
		{whole(0, 0), math.MaxInt - 1, 10, 0, exact(topPoints, 0)},
		{whole(0, 0), math.MaxInt, 10, 0, exact(topPoints, 0)},
	})
}

func TestSc1SumIsAtMostMaxPoints(t *testing.T) {
	tryAll(t, []trial{
		{whole(0, 0), topLimit - 1, 10, 0, exact(topPoints-one, 0)},
		{whole(0, 0), topLimit, 10, 0, exact(topPoints, 0)},
		{whole(0, 0), topLimit + 1, 10, 0, exact(topPoints, 0)},
		{exact(one-1, 0), topLimit - 1, 10, 0, exact(topPoints-1, 0)},
		{exact(one, 0), topLimit - 1, 10, 0, exact(topPoints, 0)},
		{exact(one+1, 0), topLimit - 1, 10, 0, exact(topPoints, 0)},
		{exact(1, 0), topLimit, 10, 0, exact(topPoints, 0)},
		{exact(topPoints-one-1, 0), 1, 10, 0, exact(topPoints-1, 0)},
		{exact(topPoints-one, 0), 1, 10, 0, exact(topPoints, 0)},
		{exact(topPoints-one+1, 0), 1, 10, 0, exact(topPoints, 0)},
		{exact(topPoints-1, 0), 0, 10, 0, exact(topPoints-1, 0)},
		{exact(topPoints, 0), 0, 10, 0, exact(topPoints, 0)},
		{exact(topPoints, 0), 1, 10, 0, exact(topPoints, 0)},
		{exact(topPoints, 0), math.MaxInt, 10, 0, exact(topPoints, 0)},
		{exact(topPoints, 0), 5, 10, 10, exact(1<<39+5*one, 10)},
		{exact(topPoints, 0), topLimit / 2, 10, 10, exact(topPoints, 10)},
		{exact(topPoints, 0), topLimit/2 - 1, 10, 10, exact(topPoints-one, 10)},
	})
}

func TestSc1ScoreAndTicksAreLimitedByDecay(t *testing.T) {
	tryAll(t, []trial{
		{exact(-1, 0), 2, 10, 0, whole(2, 0)},
		{exact(-5*one, 0), 2, 10, 12, whole(2, 10)},
		{exact(math.MinInt, 3), 2, 10, 3, whole(2, 3)},
		{exact(topPoints+1, 0), 2, 10, 0, exact(topPoints, 0)},
		{exact(topPoints+2, 0), 2, 10, 10, exact(1<<39+2*one, 10)},
		{exact(math.MaxInt, 0), 2, 10, 10, exact(1<<39+2*one, 10)},
		{exact(math.MaxInt, 0), math.MaxInt, 10, 0, exact(topPoints, 0)},
		{whole(8, -1), 2, 10, 9, whole(10, 0)},
		{whole(8, -1), 2, 10, 10, whole(6, 10)},
		{whole(8, math.MinInt), 2, 10, 10, whole(6, 10)},
		{whole(8, topTick+1), 2, 1, math.MaxInt, whole(10, topTick)},
		{whole(8, math.MaxInt), 2, 1, 0, whole(10, topTick)},
		{whole(8, topTick-2), 2, 1, math.MaxInt, whole(4, topTick)},
		{whole(8, 0), 2, 0, 1, whole(6, 1)},
		{whole(8, 0), 2, -7, 2, whole(4, 2)},
		{whole(8, 0), 2, math.MinInt, 3, whole(3, 3)},
		{whole(8, 0), 2, topSpan, topSpan - 1, whole(10, 0)},
		{whole(8, 0), 2, topSpan, topSpan, whole(6, topSpan)},
		{whole(8, 0), 2, topSpan + 1, topSpan, whole(6, topSpan)},
		{whole(8, 0), 2, math.MaxInt, topSpan, whole(6, topSpan)},
	})
}

func TestSc1AddOneFieldOrArgumentAtATime(t *testing.T) {
	for _, n := range around() {
		for _, c := range []trial{
			{s: exact(n, 20), points: 5, half: 10, now: 43},
			{s: exact(n, 0), points: 0, half: 1, now: 0},
			{s: exact(n, 0), points: topLimit - 1, half: 1, now: 0},
			{s: exact(12345, n), points: 5, half: 10, now: 43},
			{s: exact(12345, 20), points: n, half: 10, now: 43},
			{s: exact(0, 0), points: n, half: 1, now: 0},
			{s: exact(topPoints, 0), points: n, half: topSpan, now: topSpan},
			{s: whole(12345, 20), points: 5, half: n, now: 43},
			{s: whole(12345, 20), points: 5, half: 10, now: n},
		} {
			c.want = more(c.s, c.points, c.half, c.now)
			try(t, c)
		}
	}
}

func TestSc1AddAllOfTheFew(t *testing.T) {
	eachTime(func(at, life, now int) {
		for _, n := range amounts() {
			for _, points := range few() {
				s := exact(n, at)
				try(t, trial{s, points, life, now, more(s, points, life, now)})
			}
		}
	})
}

func TestSc1ReachedByHand(t *testing.T) {
	for _, limit := range []int{1, 2, 3, 10, 99, 100, 101, 65535, 65536, topLimit - 1, topLimit} {
		checkReached(t, exact(limit*one-one, 0), limit, false)
		checkReached(t, exact(limit*one-1, 0), limit, false)
		checkReached(t, exact(limit*one, 0), limit, true)
		checkReached(t, exact(limit*one+1, 0), limit, true)
		checkReached(t, exact(math.MaxInt, 0), limit, true)
		checkReached(t, exact(0, 0), limit, false)
		checkReached(t, exact(-1, 0), limit, false)
		checkReached(t, exact(-limit*one, 0), limit, false)
		checkReached(t, exact(math.MinInt, 0), limit, false)
	}
}

func TestSc1LimitIsAtLeastOne(t *testing.T) {
	for _, limit := range []int{1, 0, -1, -2, -one, -topLimit, -1 << 47, -1 << 48, math.MinInt, math.MinInt + 1} {
		checkReached(t, exact(one-1, 0), limit, false)
		checkReached(t, exact(one, 0), limit, true)
		checkReached(t, exact(0, 0), limit, false)
		checkReached(t, exact(math.MinInt, 0), limit, false)
	}
}

// Among the limits are those that are small, or negative, if One times them is cut off to an int.
func TestSc1LimitIsAtMostMaxPoints(t *testing.T) {
	for _, limit := range []int{topLimit, topLimit + 1, 1 << 25, topPoints, topPoints + 1, 1 << 46, 1 << 47, 1<<47 + 1, 1 << 48, 1<<48 + 1, math.MaxInt - 1, math.MaxInt} {
		checkReached(t, exact(0, 0), limit, false)
		checkReached(t, exact(one, 0), limit, false)
		checkReached(t, exact(topPoints-1, 0), limit, false)
		checkReached(t, exact(topPoints, 0), limit, true)
		checkReached(t, exact(topPoints+1, 0), limit, true)
	}
}

func TestSc1ReachedAgainstLargeNumbers(t *testing.T) {
	for _, limit := range around() {
		for _, n := range append(around(), limit*one-1, limit*one, limit*one+1) {
			checkReached(t, exact(n, 0), limit, enough(exact(n, 0), limit))
		}
	}
}

func TestSc1WholeByHand(t *testing.T) {
	for _, c := range [][2]int{
		{0, 0}, {1, 0}, {one - 1, 0}, {one, 1}, {one + 1, 1}, {2*one - 1, 1}, {2 * one, 2}, {100 * one, 100}, {100*one + 77, 100},
		{topPoints - 1, topLimit - 1}, {topPoints, topLimit}, {topPoints + 1, topLimit}, {topPoints + one, topLimit + 1},
		{math.MaxInt, 1<<47 - 1}, {math.MaxInt - one, 1<<47 - 2},
		{-1, 0}, {-one + 1, 0}, {-one, 0}, {-one - 1, 0}, {-2 * one, 0}, {-topPoints, 0}, {math.MinInt, 0}, {math.MinInt + 1, 0},
	} {
		checkWhole(t, exact(c[0], 0), c[1])
	}
}

func TestSc1WholeAgainstLargeNumbers(t *testing.T) {
	for _, n := range around() {
		want := new(big.Int).Quo(limited(large(n), 0, math.MaxInt), large(one))
		checkWhole(t, exact(n, 0), int(want.Int64()))
	}
}

// Reached and Whole are asked no tick: they take a score as it stands.
func TestSc1ReachedAndWholeGoByThePointsOnly(t *testing.T) {
	for _, at := range around() {
		checkReached(t, whole(7, at), 7, true)
		checkReached(t, whole(7, at), 8, false)
		checkWhole(t, whole(7, at), 7)
	}
}

// The same points, added at a later tick: more of those before them have decayed by then.
func TestSc2LaterNeverCountsMore(t *testing.T) {
	for _, n := range amounts() {
		for _, at := range ticks() {
			for _, points := range few() {
				for _, life := range lives() {
					before := topPoints
					for _, now := range ticks() {
						s := score.Add(exact(n, at), points, life, now)
						if s.Points > before {
							t.Fatalf("{%d %d} with %d more, half-life %d, is %v at %d, and had %d before", n, at, points, life, s, now, before)
						}
						before = s.Points
					}
				}
			}
		}
	}
}

func TestSc2LaterReachesNoMore(t *testing.T) {
	s := score.Add(whole(40, 3), 100, 10, 3)
	for now, limit := 3, 140; limit > 0; now, limit = now+10, limit/2 {
		checkReached(t, score.Add(s, 0, 10, now), limit, true)
		checkReached(t, score.Add(s, 0, 10, now+9), limit, true)
		checkReached(t, score.Add(s, 0, 10, now+10), limit, false)
	}
}

// checkRising asks that each score has at least the points of the one before it, and the same tick.
func checkRising(t *testing.T, l []api.Score) {
	t.Helper()
	for i := 1; i < len(l); i++ {
		if l[i].Points < l[i-1].Points || l[i].At != l[i-1].At {
			t.Fatalf("%v, and %v with fewer points", l[i], l[i-1])
		}
	}
}

func TestSc2FewerAddedPointsNeverCountMore(t *testing.T) {
	eachTime(func(at, life, now int) {
		for _, n := range amounts() {
			var l []api.Score
			for _, points := range few() {
				l = append(l, score.Add(exact(n, at), points, life, now))
			}
			checkRising(t, l)
		}
	})
}

func TestSc2FewerPointsBeforeNeverCountMore(t *testing.T) {
	eachTime(func(at, life, now int) {
		for _, points := range few() {
			var l []api.Score
			for _, n := range amounts() {
				l = append(l, score.Add(exact(n, at), points, life, now))
			}
			checkRising(t, l)
		}
	})
}

func TestSc2FewerReachAndCountNoMore(t *testing.T) {
	for i, n := range amounts() {
		for _, fewer := range amounts()[:i] {
			if score.Whole(exact(fewer, 0)) > score.Whole(exact(n, 0)) {
				t.Fatalf("Whole of %d is more than of %d", fewer, n)
			}
			for _, limit := range few() {
				if score.Reached(exact(fewer, 0), limit) && !score.Reached(exact(n, 0), limit) {
					t.Fatalf("%d reaches %d, and %d does not", fewer, limit, n)
				}
			}
		}
	}
}

func TestSc2PointsAtOneTickCountLikeTheirSum(t *testing.T) {
	for _, n := range []int{-one, 0, 1, 100 * one, topPoints - one - 1, topPoints - 1, topPoints, math.MaxInt} {
		for _, at := range []int{-1, 0, 7, 20, topTick, math.MaxInt} {
			for _, life := range []int{0, 1, 10, topSpan + 1} {
				for _, now := range []int{-1, 0, 7, 26, topSpan + 7, topTick, math.MaxInt} {
					for _, a := range few() {
						once := score.Add(exact(n, at), a, life, now)
						for _, b := range few() {
							try(t, trial{once, b, life, now, score.Add(exact(n, at), sat.Add(a, b), life, now)})
						}
					}
				}
			}
		}
	}
}

func TestSc2SumsByHand(t *testing.T) {
	s := whole(100, 4)
	for range 100 {
		s = score.Add(s, score.Penalty(1), 10, 15)
	}
	if s != whole(150, 14) {
		t.Fatal(s)
	}
	for range 10 {
		s = score.Add(s, score.Penalty(2), 10, 23)
	}
	if s != whole(250, 14) || s != score.Add(whole(100, 4), 2*score.Penalty(5), 10, 15) {
		t.Fatal(s)
	}
	s = score.Add(score.Add(s, topLimit-251, 10, 23), 1, 10, 23)
	if s != exact(topPoints, 14) || score.Add(s, 1, 10, 23) != s {
		t.Fatal(s)
	}
}

func TestSc2ListsAreRising(t *testing.T) {
	for _, l := range [][]int{few(), amounts(), ticks()} {
		for i := 1; i < len(l); i++ {
			if l[i-1] >= l[i] {
				t.Fatal(l[i-1], l[i])
			}
		}
	}
}
