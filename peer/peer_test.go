package peer_test

import (
	"fmt"
	"math"
	"math/big"
	"slices"
	"testing"

	"doorman/api"
	"doorman/peer"
	"doorman/score"
)

const (
	one       = 65536
	topTick   = 1099511627776
	topPoints = 1099511627776
	topPing   = 1048576
	topSpan   = 1073741824
)

func four(n uint64) api.Addr { return api.Addr{Lo: n} }

func six(hi, lo uint64) api.Addr { return api.Addr{V6: true, Hi: hi, Lo: lo} }

func end(a api.Addr, port int) api.End { return api.End{Addr: a, Port: port} }

// web is 1.2.3.4:80.
func web() api.End { return end(four(0x01020304), 80) }

// place is an end, and its text.
type place struct {
	e    api.End
	text string
}

// places are valid ends.
func places() []place {
	return []place{
		{web(), "1.2.3.4:80"}, {end(four(0), 1), "0.0.0.0:1"}, {end(four(0xffffffff), 65535), "255.255.255.255:65535"}, {end(four(0x0a010203), 8333), "10.1.2.3:8333"},
		{end(six(0, 0), 1), "[::]:1"}, {end(six(0, 1), 80), "[::1]:80"}, {end(six(0, 0x01020304), 80), "[::102:304]:80"}, {end(six(0x20010db800000000, 1), 65534), "[2001:db8::1]:65534"}, {end(six(math.MaxUint64, math.MaxUint64), 65535), "[ffff:ffff:ffff:ffff:ffff:ffff:ffff:ffff]:65535"},
	}
}

// broken are ends whose port, or whose address, or both are not valid.
func broken() []api.End {
	return []api.End{
		{}, end(four(0x01020304), 0), end(four(0x01020304), -1), end(four(0x01020304), 65536), end(four(0x01020304), 65616), end(four(0x01020304), math.MinInt), end(four(0x01020304), math.MaxInt), end(six(0, 1), 0), end(six(0, 1), 65536),
		end(four(1<<32), 80), end(four(math.MaxUint64), 1), end(api.Addr{Hi: 1, Lo: 0x01020304}, 80), end(six(0, 0xffff00000000), 80), end(six(0, 0xffff01020304), 80), end(six(0, 0xffff01020304), 0),
	}
}

// allEnds are ends, valid or not.
func allEnds() []api.End {
	l := broken()
	for _, p := range places() {
		l = append(l, p.e)
	}
	return l
}

// around are ordinary numbers, and those of both signs at each power of two and at the limits.
func around() []int {
	l := []int{math.MinInt, math.MinInt + 1, math.MaxInt - 1, math.MaxInt, 0, 9, 10, 11, 30, 50, 97, 100, 999, 1000, 12345, 6553600, 999999999999}
	for i := range 63 {
		p := 1 << i
		l = append(l, p-1, p, p+1, -p-1, -p, 1-p)
	}
	return l
}

// few are short enough for combinations.
func few() []int {
	return []int{math.MinInt, -topTick, -topPing, -9, -1, 0, 1, 2, 9, 29, 30, 31, 1000, one, topPing - 1, topPing, topPing + 1, 2 * topPing, topSpan, 1 << 32, 1<<32 + 30, topTick - 1, topTick, topTick + 1, 1<<41 + 9, math.MaxInt}
}

// field is one of a peer's numbers: its name, where it is, and its greatest valid value.
type field struct {
	name string
	of   func(p *api.Peer) *int
	most int
}

func fields() []field {
	return []field{
		{"Since", func(p *api.Peer) *int { return &p.Since }, topTick},
		{"Score.Points", func(p *api.Peer) *int { return &p.Score.Points }, topPoints},
		{"Score.At", func(p *api.Peer) *int { return &p.Score.At }, topTick},
		{"Ping", func(p *api.Peer) *int { return &p.Ping }, topPing},
		{"Work", func(p *api.Peer) *int { return &p.Work }, topTick},
	}
}

// with is a peer with another number in a field.
func with(p api.Peer, f field, n int) api.Peer {
	*f.of(&p) = n
	return p
}

// usual is a valid peer, in no two of whose fields the same number stands.
func usual() api.Peer {
	return api.Peer{End: web(), In: true, Since: 9, Score: api.Score{Points: 20*one + 7, At: 29}, Ping: 30, Work: 12}
}

// least and most are the valid peers whose numbers are at the lower and the upper ends.
func least() api.Peer { return api.Peer{End: end(four(0), 1)} }

func most() api.Peer {
	return api.Peer{End: end(six(math.MaxUint64, math.MaxUint64), 65535), In: true, Since: topTick, Score: api.Score{Points: topPoints, At: topTick}, Ping: topPing, Work: topTick}
}

// peers are usual ones, and those with each of the numbers in one field; most of them are not valid.
func peers() []api.Peer {
	l := []api.Peer{{}, {In: true}, usual(), least(), most()}
	for _, e := range allEnds() {
		p := usual()
		p.End, p.In = e, false
		l = append(l, p)
	}
	for _, p := range []api.Peer{usual(), least(), most()} {
		for _, f := range fields() {
			for _, n := range few() {
				l = append(l, with(p, f, n))
			}
		}
	}
	return l
}

func large(n int) *big.Int { return big.NewInt(int64(n)) }

// beyond tells without sums or differences whether a number is outside of the range from 0 to most.
func beyond(n, most int) bool { return large(n).Sign() < 0 || large(n).Cmp(large(most)) > 0 }

// fitted is a number that is limited to the ticks.
func fitted(n int) int {
	switch {
	case large(n).Sign() < 0:
		return 0
	case beyond(n, topTick):
		return topTick
	}
	return n
}

func checkRight(t *testing.T, p api.Peer, want bool) {
	t.Helper()
	if got := peer.Right(p); got != want {
		t.Fatalf("Right(%+v) is %v", p, got)
	}
}

func checkText(t *testing.T, p api.Peer, want string) {
	t.Helper()
	if got := peer.Text(p); got != want {
		t.Fatalf("Text(%+v) is %q, not %q", p, got, want)
	}
}

func check(t *testing.T, call string, got, want api.Peer, args ...int) {
	t.Helper()
	if got != want {
		t.Fatalf("%s%v is %+v, not %+v", call, args, got, want)
	}
}

func checkPing(t *testing.T, before, ms, want int) {
	t.Helper()
	p := usual()
	p.Ping = before
	after := p
	after.Ping = want
	check(t, "Pong", peer.Pong(p, ms), after, before, ms)
}

func checkWork(t *testing.T, before, now, want int) {
	t.Helper()
	p := usual()
	p.Work = before
	after := p
	after.Work = want
	check(t, "Worked", peer.Worked(p, now), after, before, now)
}

func TestPe1LimitsAreTheGivenOnes(t *testing.T) {
	if api.One != one || api.MaxTick != topTick || api.MaxPoints != topPoints || api.MaxPing != topPing || api.MaxSpan != topSpan {
		t.Fatal("other limits than the document's")
	}
}

func TestPe1RightByHand(t *testing.T) {
	for _, p := range []api.Peer{usual(), least(), most(), {End: web()}, {End: web(), In: true}, {End: web(), Since: 5}, {End: web(), Work: 7}, {End: web(), Ping: 1}, {End: web(), Score: api.Score{Points: 1}}, {End: web(), Score: api.Score{At: 1}}} {
		checkRight(t, p, true)
		p.In = !p.In
		checkRight(t, p, true)
	}
	for _, p := range []api.Peer{
		{}, {In: true}, {End: web(), Since: -1}, {End: web(), Since: topTick + 1}, {End: web(), Work: -1}, {End: web(), Work: topTick + 1}, {End: web(), Ping: -1}, {End: web(), Ping: topPing + 1},
		{End: web(), Score: api.Score{Points: -1}}, {End: web(), Score: api.Score{Points: topPoints + 1}}, {End: web(), Score: api.Score{At: -1}}, {End: web(), Score: api.Score{At: topTick + 1}}, {Since: 5, Ping: 30, Work: 7},
	} {
		checkRight(t, p, false)
		p.In = !p.In
		checkRight(t, p, false)
	}
}

func TestPe1RightOfEachEnd(t *testing.T) {
	for _, p := range []api.Peer{usual(), least(), most()} {
		for _, c := range places() {
			p.End = c.e
			checkRight(t, p, true)
		}
		for _, e := range broken() {
			p.End = e
			checkRight(t, p, false)
		}
	}
}

func TestPe1RightOfEachField(t *testing.T) {
	for _, f := range fields() {
		l := append(around(), f.most-1, f.most, f.most+1, 2*f.most)
		for _, p := range []api.Peer{usual(), least(), most()} {
			for _, n := range l {
				checkRight(t, with(p, f, n), !beyond(n, f.most))
			}
		}
	}
}

// Two faults are no better than one, wherever they are, also where a sum of both numbers would lie within bounds.
func TestPe1RightOfEachPairOfFields(t *testing.T) {
	for i, f := range fields() {
		for _, g := range fields()[:i] {
			for _, n := range few() {
				for _, m := range few() {
					p := with(with(usual(), f, n), g, m)
					checkRight(t, p, !beyond(n, f.most) && !beyond(m, g.most))
					p.End.Port = 0
					checkRight(t, p, false)
				}
			}
		}
	}
}

func TestPe1NewByHand(t *testing.T) {
	for _, c := range []struct{ now, want int }{
		{9, 9}, {0, 0}, {1, 1}, {1000, 1000}, {-1, 0}, {-3, 0}, {math.MinInt, 0}, {topTick - 1, topTick - 1}, {topTick, topTick}, {topTick + 1, topTick}, {1 << 41, topTick}, {math.MaxInt, topTick},
	} {
		for _, in := range []bool{true, false} {
			want := api.Peer{End: web(), In: in, Since: c.want, Score: api.Score{Points: 0, At: c.want}, Ping: 0, Work: 0}
			check(t, "New", peer.New(web(), in, c.now), want, c.now)
		}
	}
}

func TestPe1NewOfEachEnd(t *testing.T) {
	for _, e := range allEnds() {
		for _, in := range []bool{true, false} {
			for _, now := range around() {
				want := api.Peer{End: e, In: in, Since: fitted(now), Score: api.Score{At: fitted(now)}}
				check(t, "New", peer.New(e, in, now), want, now)
			}
		}
	}
}

func TestPe1ExampleOfTheChapter(t *testing.T) {
	p := peer.New(web(), true, 9)
	if got := peer.Pong(peer.Pong(p, 30), 50).Ping; got != 30 {
		t.Fatal(got)
	}
	if got := peer.Pong(peer.Pong(p, 50), 30).Ping; got != 30 {
		t.Fatal(got)
	}
}

func TestPe1PongByHand(t *testing.T) {
	for _, c := range [][3]int{
		{0, 30, 30}, {30, 50, 30}, {30, 29, 29}, {30, 30, 30}, {30, 31, 30}, {30, 1, 1}, {1, 1, 1}, {1, 2, 1}, {2, 1, 1},
		{0, 0, 0}, {30, 0, 30}, {1, 0, 1}, {0, -1, 0}, {30, -1, 30}, {0, -30, 0}, {30, -30, 30}, {30, math.MinInt, 30}, {0, math.MinInt, 0},
		{0, 1, 1}, {0, topPing - 1, topPing - 1}, {0, topPing, topPing}, {0, topPing + 1, 0}, {0, 2 * topPing, 0}, {0, 1 << 32, 0}, {0, 1<<32 + 30, 0}, {0, math.MaxInt, 0},
		{topPing, topPing, topPing}, {topPing, topPing - 1, topPing - 1}, {topPing, topPing + 1, topPing}, {topPing - 1, topPing, topPing - 1}, {topPing, 1, 1}, {topPing, 0, topPing},
	} {
		checkPing(t, c[0], c[1], c[2])
	}
}

// A latency beyond MaxPing is greater than any that may be told, and one below 0 is less than any, and not 0.
func TestPe1PongOfAPeerThatIsNotValid(t *testing.T) {
	for _, c := range [][3]int{
		{topPing + 1, topPing, topPing}, {topPing + 1, topPing + 1, topPing + 1}, {topPing + 5, topPing + 1, topPing + 5}, {topPing + 1, 0, topPing + 1}, {math.MaxInt, 30, 30}, {math.MaxInt, topPing, topPing}, {math.MaxInt, topPing + 1, math.MaxInt}, {math.MaxInt, -1, math.MaxInt}, {1<<32 + 30, 50, 50},
		{-1, 30, -1}, {-1, 1, -1}, {-1, topPing, -1}, {-1, -2, -1}, {-1, 0, -1}, {-30, 29, -30}, {math.MinInt, 1, math.MinInt}, {math.MinInt, topPing, math.MinInt}, {math.MinInt, math.MaxInt, math.MinInt},
	} {
		checkPing(t, c[0], c[1], c[2])
	}
}

func TestPe1PongOfAllNumbers(t *testing.T) {
	for _, before := range around() {
		for _, ms := range around() {
			want := before
			if ms != 0 && !beyond(ms, topPing) && (before == 0 || large(before).Cmp(large(ms)) > 0) {
				want = ms
			}
			checkPing(t, before, ms, want)
		}
	}
}

func TestPe1WorkedByHand(t *testing.T) {
	for _, c := range [][3]int{
		{0, 12, 12}, {12, 7, 12}, {12, 12, 12}, {12, 13, 13}, {12, 11, 12}, {0, 0, 0}, {0, 1, 1}, {12, 0, 12}, {12, -5, 12}, {0, -5, 0}, {0, math.MinInt, 0}, {12, math.MinInt, 12},
		{12, topTick - 1, topTick - 1}, {12, topTick, topTick}, {12, topTick + 1, topTick}, {12, 1 << 62, topTick}, {0, math.MaxInt, topTick}, {topTick, topTick + 1, topTick}, {topTick, math.MaxInt, topTick}, {topTick, 0, topTick}, {topTick - 1, topTick - 2, topTick - 1}, {topTick - 1, topTick, topTick}, {topTick - 1, topTick + 1, topTick},
		{1000, 1 << 32, 1 << 32}, {1 << 32, 1000, 1 << 32}, {1<<32 + 1, 1 << 32, 1<<32 + 1},
	} {
		checkWork(t, c[0], c[1], c[2])
	}
}

// Only the tick is fitted: what stands in Work before is taken as it is.
func TestPe1WorkedOfAPeerThatIsNotValid(t *testing.T) {
	for _, c := range [][3]int{
		{-1, -1, 0}, {-5, -9, 0}, {-5, 0, 0}, {-5, 3, 3}, {math.MinInt, math.MinInt, 0}, {math.MinInt, math.MaxInt, topTick},
		{topTick + 1, 0, topTick + 1}, {topTick + 1, topTick, topTick + 1}, {topTick + 1, topTick + 2, topTick + 1}, {topTick + 1, math.MaxInt, topTick + 1}, {math.MaxInt, math.MinInt, math.MaxInt}, {math.MaxInt, math.MaxInt, math.MaxInt},
	} {
		checkWork(t, c[0], c[1], c[2])
	}
}

func TestPe1WorkedOfAllNumbers(t *testing.T) {
	for _, before := range around() {
		for _, now := range around() {
			want := before
			if large(fitted(now)).Cmp(large(before)) > 0 {
				want = fitted(now)
			}
			checkWork(t, before, now, want)
		}
	}
}

// blame is a call of Blamed, and the score that it has to leave.
type blame struct {
	s                 api.Score
	points, half, now int
	want              api.Score
}

func exact(points, at int) api.Score { return api.Score{Points: points, At: at} }

func TestPe1BlamedByHand(t *testing.T) {
	for _, c := range []blame{
		{exact(0, 9), 20, 10, 29, exact(20*one, 29)}, {exact(0, 9), 20, 10, 28, exact(20*one, 19)}, {exact(0, 9), 0, 10, 9, exact(0, 9)}, {exact(0, 0), 100, 1, 0, exact(100*one, 0)},
		{exact(100*one, 0), 20, 10, 9, exact(120*one, 0)}, {exact(100*one, 0), 20, 10, 10, exact(70*one, 10)}, {exact(100*one, 0), 20, 10, 25, exact(45*one, 20)}, {exact(100*one, 0), 0, 10, 25, exact(25*one, 20)}, {exact(100*one, 0), 10, 20, 30, exact(60*one, 20)}, {exact(100*one, 50), 20, 10, 9, exact(120*one, 50)},
		{exact(5, 0), 2, 10, 10, exact(2*one+2, 10)}, {exact(5, 0), -2, 10, 10, exact(2, 10)}, {exact(8*one, 0), 2, 0, 1, exact(6*one, 1)}, {exact(8*one, 0), 2, topSpan + 1, topSpan, exact(6*one, topSpan)},
		{exact(topPoints-one, 0), 1, 10, 0, exact(topPoints, 0)}, {exact(topPoints, 0), 1, 10, 0, exact(topPoints, 0)}, {exact(0, 0), math.MaxInt, 10, 0, exact(topPoints, 0)}, {exact(0, topTick), 1, 1, math.MaxInt, exact(one, topTick)},
		{exact(-7, -7), 3, 5, -7, exact(3*one, 0)}, {exact(math.MaxInt, math.MaxInt), 3, 5, math.MinInt, exact(topPoints, topTick)}, {exact(math.MinInt, math.MinInt), math.MinInt, math.MinInt, math.MinInt, exact(0, 0)},
	} {
		for _, p := range peers() {
			p.Score = c.s
			want := p
			want.Score = c.want
			check(t, "Blamed", peer.Blamed(p, c.points, c.half, c.now), want, c.points, c.half, c.now)
		}
	}
}

// checkBlamed holds Blamed against chapter 16.
func checkBlamed(t *testing.T, p api.Peer, points, half, now int) {
	t.Helper()
	want := p
	want.Score = score.Add(p.Score, points, half, now)
	check(t, "Blamed", peer.Blamed(p, points, half, now), want, points, half, now)
}

func TestPe1BlamedIsChapter16sAdd(t *testing.T) {
	for _, p := range peers() {
		for _, n := range around() {
			checkBlamed(t, p, n, 10, 57)
			checkBlamed(t, p, 20, n, 57)
			checkBlamed(t, p, 20, 10, n)
		}
	}
	for _, points := range few() {
		for _, half := range few() {
			for _, now := range few() {
				checkBlamed(t, usual(), points, half, now)
				checkBlamed(t, most(), points, half, now)
			}
		}
	}
}

// Each call changes the field that is its own, and no other one, whatever stands there.
func TestPe1OtherFieldsStay(t *testing.T) {
	for _, p := range peers() {
		for _, n := range few() {
			pong, worked, blamed := p, p, p
			pong.Ping = peer.Pong(api.Peer{Ping: p.Ping}, n).Ping
			worked.Work = peer.Worked(api.Peer{Work: p.Work}, n).Work
			blamed.Score = peer.Blamed(api.Peer{Score: p.Score}, 20, 10, n).Score
			check(t, "Pong", peer.Pong(p, n), pong, n)
			check(t, "Worked", peer.Worked(p, n), worked, n)
			check(t, "Blamed", peer.Blamed(p, 20, 10, n), blamed, n)
		}
	}
}

func TestPe2TextByHand(t *testing.T) {
	for _, c := range []struct {
		p    api.Peer
		want string
	}{
		{usual(), "in 1.2.3.4:80 since 9 points 20 ping 30 work 12"},
		{api.Peer{End: web()}, "out 1.2.3.4:80 since 0 points 0 ping 0 work 0"},
		{api.Peer{}, "out - since 0 points 0 ping 0 work 0"},
		{api.Peer{In: true}, "in - since 0 points 0 ping 0 work 0"},
		{least(), "out 0.0.0.0:1 since 0 points 0 ping 0 work 0"},
		{most(), "in [ffff:ffff:ffff:ffff:ffff:ffff:ffff:ffff]:65535 since 1099511627776 points 16777216 ping 1048576 work 1099511627776"},
		{api.Peer{End: end(six(0x20010db800000000, 1), 8333), Since: 1, Score: exact(2*one, 3), Ping: 4, Work: 5}, "out [2001:db8::1]:8333 since 1 points 2 ping 4 work 5"},
		{api.Peer{End: web(), Score: exact(one-1, 77)}, "out 1.2.3.4:80 since 0 points 0 ping 0 work 0"},
		{api.Peer{End: web(), Score: exact(one, 77)}, "out 1.2.3.4:80 since 0 points 1 ping 0 work 0"},
		{api.Peer{End: web(), Score: exact(2*one-1, 77)}, "out 1.2.3.4:80 since 0 points 1 ping 0 work 0"},
		{api.Peer{End: web(), Since: -1, Score: exact(-1, -1), Ping: -10, Work: -100}, "out 1.2.3.4:80 since -1 points 0 ping -10 work -100"},
		{api.Peer{End: end(four(0x01020304), 65536), In: true, Since: 10, Score: exact(100*one, 0), Ping: 1000, Work: 10000}, "in - since 10 points 100 ping 1000 work 10000"},
		{api.Peer{Since: math.MinInt, Score: exact(math.MinInt, math.MinInt), Ping: math.MinInt, Work: math.MinInt}, "out - since -9223372036854775808 points 0 ping -9223372036854775808 work -9223372036854775808"},
		{api.Peer{Since: math.MaxInt, Score: exact(math.MaxInt, math.MaxInt), Ping: math.MaxInt, Work: math.MaxInt}, "out - since 9223372036854775807 points 140737488355327 ping 9223372036854775807 work 9223372036854775807"},
	} {
		checkText(t, c.p, c.want)
	}
}

func TestPe2TextOfEachEnd(t *testing.T) {
	rest := " since 9 points 20 ping 30 work 12"
	p := usual()
	for _, c := range places() {
		p.End, p.In = c.e, true
		checkText(t, p, "in "+c.text+rest)
		p.In = false
		checkText(t, p, "out "+c.text+rest)
	}
	for _, e := range broken() {
		p.End, p.In = e, true
		checkText(t, p, "in -"+rest)
		p.In = false
		checkText(t, p, "out -"+rest)
	}
}

func TestPe2TextOfEachField(t *testing.T) {
	for _, n := range around() {
		p := usual()
		p.Since = n
		checkText(t, p, fmt.Sprintf("in 1.2.3.4:80 since %d points 20 ping 30 work 12", n))
		p = usual()
		p.Score.Points = n
		whole := new(big.Int).Quo(large(max(n, 0)), large(one))
		checkText(t, p, fmt.Sprintf("in 1.2.3.4:80 since 9 points %v ping 30 work 12", whole))
		p = usual()
		p.Ping = n
		checkText(t, p, fmt.Sprintf("in 1.2.3.4:80 since 9 points 20 ping %d work 12", n))
		p = usual()
		p.Work = n
		checkText(t, p, fmt.Sprintf("in 1.2.3.4:80 since 9 points 20 ping 30 work %d", n))
		// The score is written as it stands: no tick is asked for, and its own is not written.
		p = usual()
		p.Score.At = n
		checkText(t, p, "in 1.2.3.4:80 since 9 points 20 ping 30 work 12")
	}
}

func TestPe2TextAfterEachCall(t *testing.T) {
	p := peer.New(web(), false, 1000)
	checkText(t, p, "out 1.2.3.4:80 since 1000 points 0 ping 0 work 0")
	p = peer.Pong(p, 250)
	checkText(t, p, "out 1.2.3.4:80 since 1000 points 0 ping 250 work 0")
	p = peer.Worked(p, 1500)
	checkText(t, p, "out 1.2.3.4:80 since 1000 points 0 ping 250 work 1500")
	p = peer.Blamed(p, score.Penalty(4), 100, 1020)
	checkText(t, p, "out 1.2.3.4:80 since 1000 points 50 ping 250 work 1500")
	p = peer.Blamed(p, score.Penalty(1), 100, 1120)
	checkText(t, p, "out 1.2.3.4:80 since 1000 points 26 ping 250 work 1500")
	p = peer.Blamed(p, 0, 100, 1200)
	checkText(t, p, "out 1.2.3.4:80 since 1000 points 13 ping 250 work 1500")
}

func TestPe3NewPeersAreValidIfTheirEndsAre(t *testing.T) {
	for _, in := range []bool{true, false} {
		for _, now := range around() {
			for _, c := range places() {
				checkRight(t, peer.New(c.e, in, now), true)
			}
			for _, e := range broken() {
				checkRight(t, peer.New(e, in, now), false)
			}
		}
	}
}

// validPeers have each of the few valid numbers in each field.
func validPeers() []api.Peer {
	l := []api.Peer{usual(), least(), most()}
	for _, p := range []api.Peer{usual(), least(), most()} {
		for _, f := range fields() {
			for _, n := range few() {
				if !beyond(n, f.most) {
					l = append(l, with(p, f, n))
				}
			}
		}
	}
	return l
}

func TestPe3ValidPeersStayValid(t *testing.T) {
	for _, p := range validPeers() {
		checkRight(t, p, true)
		for _, n := range around() {
			checkRight(t, peer.Pong(p, n), true)
			checkRight(t, peer.Worked(p, n), true)
			checkRight(t, peer.Blamed(p, n, 10, 57), true)
			checkRight(t, peer.Blamed(p, 20, n, 57), true)
			checkRight(t, peer.Blamed(p, 20, 10, n), true)
		}
	}
}

// draw is a plain sequence of numbers that is the same each time.
func draw(state *uint64) int {
	*state = *state*6364136223846793005 + 1442695040888963407
	return int(*state >> 8)
}

func TestPe3PingIsTheLeastAndWorkTheLatest(t *testing.T) {
	state := uint64(17)
	l := few()
	for range 2000 {
		p := peer.New(web(), draw(&state)%2 == 0, draw(&state)%1000)
		s := p.Score
		var pings, works []int
		for range 12 {
			n := l[draw(&state)%len(l)]
			switch draw(&state) % 3 {
			case 0:
				p = peer.Pong(p, n)
				if n != 0 && !beyond(n, topPing) {
					pings = append(pings, n)
				}
			case 1:
				p = peer.Worked(p, n)
				works = append(works, fitted(n))
			default:
				points, half := draw(&state)%200, draw(&state)%50
				p, s = peer.Blamed(p, points, half, n), score.Add(s, points, half, n)
			}
			checkRight(t, p, true)
		}
		// Where nothing was told yet stands 0.
		want := api.Peer{End: web(), In: p.In, Since: p.Since, Score: s}
		if len(pings) > 0 {
			want.Ping = slices.Min(pings)
		}
		want.Work = slices.Max(append(works, 0))
		check(t, "all calls", p, want, slices.Concat(pings, works)...)
	}
}

func TestPe3OrderOfTheCallsDoesNotMatter(t *testing.T) {
	for _, p := range []api.Peer{peer.New(web(), true, 9), usual(), most()} {
		for _, a := range few() {
			for _, b := range few() {
				check(t, "Pong", peer.Pong(peer.Pong(p, a), b), peer.Pong(peer.Pong(p, b), a), a, b)
				check(t, "Worked", peer.Worked(peer.Worked(p, a), b), peer.Worked(peer.Worked(p, b), a), a, b)
				check(t, "Pong and Worked", peer.Pong(peer.Worked(p, a), b), peer.Worked(peer.Pong(p, b), a), a, b)
				check(t, "Blamed and Pong", peer.Blamed(peer.Pong(p, a), 20, 10, b), peer.Pong(peer.Blamed(p, 20, 10, b), a), a, b)
			}
		}
	}
}
