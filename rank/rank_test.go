package rank_test

import (
	"math"
	"slices"
	"sort"
	"sync"
	"testing"

	"doorman/api"
	"doorman/endp"
	"doorman/mix"
	"doorman/rank"
)

const (
	topTick = 1 << 40
	topPing = 1 << 20
	topPort = 65535
	top     = math.MaxUint64
)

func four(n uint64) api.Addr { return api.Addr{Lo: n} }

func six(hi, lo uint64) api.Addr { return api.Addr{V6: true, Hi: hi, Lo: lo} }

func end(a api.Addr, port int) api.End { return api.End{Addr: a, Port: port} }

// at is a peer of which nothing is known but where it is.
func at(a api.Addr, port int) api.Peer { return api.Peer{End: end(a, port)} }

// known is a peer at the n-th address of 10.0.0.0/16, with its numbers.
func known(n uint64, ping, work, since int) api.Peer {
	return api.Peer{End: end(four(0x0a000000+n), 80), Ping: ping, Work: work, Since: since}
}

// orders are the four.
func orders() []int { return []int{1, 2, 3, 4} }

// others are no orders.
func others() []int {
	return []int{math.MinInt, math.MinInt + 1, -1 << 32, -257, -4, -3, -2, -1, 0, 5, 6, 7, 8, 9, 257, 258, 1<<32 + 1, 1<<32 + 2, 1<<62 + 3, math.MaxInt}
}

// secrets are ordinary ones, and the limits.
func secrets() []uint64 { return []uint64{0, 1, 99, 1<<63 - 1, 1 << 63, top} }

// numbers are those of both signs at each limit and beside it, and ordinary ones.
func numbers() []int {
	return []int{math.MinInt, math.MinInt + 1, -1 << 32, -topTick, -topPing, -256, -9, -1, 0, 1, 2, 9, 255, 256, 1000, topPing - 1, topPing, topPing + 1, 1<<31 - 1, 1 << 31, 1 << 32, 1<<32 + 9, topTick - 1, topTick, topTick + 1, math.MaxInt - 1, math.MaxInt}
}

// wrong are addresses that are not valid.
func wrong() []api.Addr {
	return []api.Addr{four(1 << 32), four(0x10a000001), four(top), {Hi: 1, Lo: 0x0a000001}, six(0, 0xffff0a000001), six(0, 0xffff00000000)}
}

// ends are in order, valid ones and such as are not.
func ends() []api.End {
	return []api.End{
		end(four(0), math.MinInt), end(four(0), 0), end(four(0), 1), end(four(0), topPort), end(four(1), 1), end(four(0x0a000001), -80), end(four(0x0a000001), 79), end(four(0x0a000001), 80), end(four(0x0a000001), 8080), end(four(0x0a000002), 1),
		end(four(0x0a010001), 80), end(four(0xffffffff), topPort), end(four(0xffffffff), topPort+1), end(four(1<<32), 80), end(four(top), 1), end(api.Addr{Hi: 1}, 5), end(api.Addr{Hi: 1, Lo: 0x0a000001}, 80), end(api.Addr{Hi: top}, 0),
		end(six(0, 0), 1), end(six(0, 1), 80), end(six(0, 0xffff0a000001), 80), end(six(1, 0), 80), end(six(0x20010db800000000, 1), 79), end(six(0x20010db800000000, 1), 80), end(six(0x20010db800000001, 0), 80), end(six(0x20010db900000000, 0), 80), end(six(top, top), topPort), end(six(top, top), math.MaxInt),
	}
}

// field is one of a peer's numbers.
type field struct {
	name string
	of   func(p *api.Peer) *int
}

func ping(p *api.Peer) *int { return &p.Ping }

func work(p *api.Peer) *int { return &p.Work }

func since(p *api.Peer) *int { return &p.Since }

func fields() []field {
	return []field{
		{"Ping", ping}, {"Work", work}, {"Since", since},
		{"Points", func(p *api.Peer) *int { return &p.Score.Points }}, {"At", func(p *api.Peer) *int { return &p.Score.At }},
	}
}

// asked is the field that an order asks for; none for ByGroup.
func asked(by int) string { return []string{"", "", "Ping", "Work", "Since"}[by] }

func with(p api.Peer, of func(p *api.Peer) *int, n int) api.Peer {
	*of(&p) = n
	return p
}

func valid(a api.Addr) bool {
	if a.V6 {
		return a.Hi != 0 || a.Lo>>32 != 0xffff
	}
	return a.Hi == 0 && a.Lo>>32 == 0
}

// mixed is the number of an address's group.
func mixed(secret uint64, a api.Addr) uint64 {
	switch {
	case !valid(a):
		return mix.Of(secret, 4, 0, 0, 0)
	case a.V6:
		return mix.Of(secret, 6, a.Hi>>32<<32, 0, 32)
	}
	return mix.Of(secret, 4, 0, a.Lo>>16<<16, 16)
}

// sooner tells field by field whether an end comes first.
func sooner(a, b api.End) bool {
	switch {
	case a.Addr.V6 != b.Addr.V6:
		return b.Addr.V6
	case a.Addr.Hi != b.Addr.Hi:
		return a.Addr.Hi < b.Addr.Hi
	case a.Addr.Lo != b.Addr.Lo:
		return a.Addr.Lo < b.Addr.Lo
	}
	return a.Port < b.Port
}

// counts and ahead say once more what the chapter says.
func counts(p api.Peer, by int) bool {
	return by == 1 || by == 2 && p.Ping >= 1 || by == 3 && p.Work >= 1 || by == 4
}

func ahead(a, b api.Peer, by int, secret uint64) bool {
	x, y := mixed(secret, a.End.Addr), mixed(secret, b.End.Addr)
	switch {
	case by < 1 || by > 4:
		return false
	case by == 1 && x != y:
		return x > y
	case by == 2 && a.Ping != b.Ping:
		return a.Ping < b.Ping
	case by == 3 && a.Work != b.Work:
		return b.Work < a.Work
	case by == 4 && a.Since != b.Since:
		return a.Since < b.Since
	}
	return sooner(a.End, b.End)
}

// ranked is how many peers are before one.
func ranked(l []api.Peer, i, by int, secret uint64) int {
	if i < 0 || i >= len(l) {
		return -1
	}
	n := 0
	for _, p := range l {
		if counts(p, by) && ahead(p, l[i], by, secret) {
			n++
		}
	}
	return n
}

// firsts picks again and again the first peer that none of the rest precedes.
func firsts(l []api.Peer, by, n int, secret uint64) []int {
	var rest, row []int
	for i, p := range l {
		if counts(p, by) {
			rest = append(rest, i)
		}
	}
	for len(rest) > 0 && len(row) < n {
		best := 0
		for k := range rest {
			if ahead(l[rest[k]], l[rest[best]], by, secret) {
				best = k
			}
		}
		row = append(row, rest[best])
		rest = slices.Delete(rest, best, best+1)
	}
	return row
}

func checkCounts(t *testing.T, p api.Peer, by int, want bool) {
	t.Helper()
	if got := rank.Counts(p, by); got != want {
		t.Fatalf("Counts(%+v, %d) is %v", p, by, got)
	}
}

func checkAhead(t *testing.T, a, b api.Peer, by int, secret uint64, want bool) {
	t.Helper()
	if got := rank.Ahead(a, b, by, secret); got != want {
		t.Fatalf("Ahead(%+v, %+v, %d, %d) is %v", a, b, by, secret, got)
	}
}

// checkOrder: the first peer precedes the second one, and not the other way round.
func checkOrder(t *testing.T, a, b api.Peer, by int, secret uint64) {
	t.Helper()
	checkAhead(t, a, b, by, secret, true)
	checkAhead(t, b, a, by, secret, false)
}

// lined hands in a list with something behind it, and asks that nothing is written to it.
func lined[A any](t *testing.T, l []api.Peer, ask func([]api.Peer) A) A {
	t.Helper()
	own := append(slices.Clone(l), known(77, 1, 1, 0), known(78, 0, 0, -1))
	before := slices.Clone(own)
	answer := ask(own[:len(l)])
	if !slices.Equal(own, before) {
		t.Fatalf("%+v was changed to %+v", before, own)
	}
	return answer
}

func checkFirst(t *testing.T, l []api.Peer, by, n int, secret uint64, want []int) {
	t.Helper()
	got := lined(t, l, func(l []api.Peer) []int { return rank.First(l, by, n, secret) })
	if !slices.Equal(got, want) {
		t.Fatalf("First(%+v, %d, %d, %d) is %v, not %v", l, by, n, secret, got, want)
	}
}

func checkRank(t *testing.T, l []api.Peer, i, by int, secret uint64, want int) {
	t.Helper()
	got := lined(t, l, func(l []api.Peer) int { return rank.Rank(l, i, by, secret) })
	if got != want {
		t.Fatalf("Rank(%+v, %d, %d, %d) is %d, not %d", l, i, by, secret, got, want)
	}
}

// checkList asks for all numbers of first ones and for all ranks, and beside them.
func checkList(t *testing.T, l []api.Peer, by int, secret uint64) {
	t.Helper()
	for n := -1; n <= len(l)+1; n++ {
		checkFirst(t, l, by, n, secret, firsts(l, by, n, secret))
		checkRank(t, l, n, by, secret, ranked(l, n, by, secret))
	}
}

// draw is a plain sequence of numbers that is the same each time.
func draw(state *uint64) int {
	*state = *state*6364136223846793005 + 1442695040888963407
	return int(*state >> 8)
}

func shuffled(l []api.Peer, state *uint64) []api.Peer {
	l = slices.Clone(l)
	for i := range l {
		j := i + draw(state)%(len(l)-i)
		l[i], l[j] = l[j], l[i]
	}
	return l
}

// crowd is a list of any length, with many equal numbers, groups and ends.
func crowd(n int, state *uint64) []api.Peer {
	l := make([]api.Peer, n)
	for i := range l {
		a := four(uint64(0x0a000000 + draw(state)%4<<16 + draw(state)%9))
		if draw(state)%3 == 0 {
			a = six(uint64(0x20010db800000000+draw(state)%4<<32), uint64(draw(state)%9))
		}
		l[i] = at(a, 80+draw(state)%3)
		l[i].Ping, l[i].Work, l[i].Since = draw(state)%6-1, draw(state)%6-1, draw(state)%6-1
		l[i].In, l[i].Score = draw(state)%2 == 0, api.Score{Points: draw(state) % 9, At: draw(state) % 9}
	}
	return l
}

// apart is a list of peers with different ends.
func apart(n int, state *uint64) []api.Peer {
	l := crowd(n, state)
	for i := range l {
		l[i].End.Port = 1 + i
	}
	return shuffled(l, state)
}

func TestRa1OrdersAreTheGivenOnes(t *testing.T) {
	if !slices.Equal(orders(), []int{rank.ByGroup, rank.ByPing, rank.ByWork, rank.ByTime}) {
		t.Fatal("the orders have other numbers")
	}
}

func TestRa1CountsByHand(t *testing.T) {
	for _, c := range []struct {
		p                       api.Peer
		group, ping, work, time bool
	}{
		{api.Peer{}, true, false, false, true}, {known(1, 0, 0, 0), true, false, false, true}, {known(1, 0, 0, 5), true, false, false, true}, {known(1, 0, 0, -5), true, false, false, true},
		{known(1, 1, 0, 0), true, true, false, true}, {known(1, 0, 1, 0), true, false, true, true}, {known(1, 1, 1, 1), true, true, true, true}, {known(1, -1, -1, -1), true, false, false, true}, {known(1, -1, 1, 0), true, false, true, true}, {known(1, 1, -1, 0), true, true, false, true},
		{known(1, topPing, topTick, topTick), true, true, true, true}, {known(1, topPing+1, topTick+1, topTick+1), true, true, true, true}, {known(1, math.MinInt, math.MinInt, math.MinInt), true, false, false, true}, {known(1, math.MaxInt, math.MaxInt, math.MaxInt), true, true, true, true},
	} {
		checkCounts(t, c.p, rank.ByGroup, c.group)
		checkCounts(t, c.p, rank.ByPing, c.ping)
		checkCounts(t, c.p, rank.ByWork, c.work)
		checkCounts(t, c.p, rank.ByTime, c.time)
	}
}

func TestRa1CountsOfEachNumber(t *testing.T) {
	for _, p := range []api.Peer{{}, known(1, 3, 4, 5), known(1, -3, -4, -5), {End: ends()[0]}, {End: end(four(1<<32), 0), In: true}} {
		for _, n := range numbers() {
			checkCounts(t, with(p, ping, n), rank.ByPing, n > 0)
			checkCounts(t, with(p, work, n), rank.ByWork, n > 0)
			checkCounts(t, with(p, since, n), rank.ByTime, true)
			for _, f := range fields() {
				for _, by := range orders() {
					checkCounts(t, with(p, f.of, n), by, counts(with(p, f.of, n), by))
				}
			}
		}
	}
}

func TestRa1CountsWhereverAPeerIs(t *testing.T) {
	for _, e := range ends() {
		for _, in := range []bool{false, true} {
			for _, by := range orders() {
				checkCounts(t, api.Peer{End: e, In: in, Ping: 1, Work: 1}, by, true)
				checkCounts(t, api.Peer{End: e, In: in}, by, by == rank.ByGroup || by == rank.ByTime)
			}
		}
	}
}

func TestRa1NobodyCountsInOtherOrders(t *testing.T) {
	for _, by := range others() {
		for _, p := range []api.Peer{{}, known(1, 1, 1, 1), known(2, topPing, topTick, topTick), at(six(0x20010db800000000, 1), 80)} {
			checkCounts(t, p, by, false)
		}
	}
}

func TestRa1AheadByHand(t *testing.T) {
	for _, c := range []struct {
		a, b api.Peer
		by   int
	}{
		{known(2, 3, 0, 0), known(1, 5, 0, 0), rank.ByPing}, {known(1, 3, 0, 0), known(2, 5, 0, 0), rank.ByPing}, {known(1, 5, 9, 9), known(2, 5, 10, 1), rank.ByPing}, {known(2, 1, 0, 0), known(1, topPing, 0, 0), rank.ByPing},
		{known(2, 0, 10, 0), known(1, 0, 9, 0), rank.ByWork}, {known(1, 0, 10, 0), known(2, 0, 9, 0), rank.ByWork}, {known(1, 5, 9, 9), known(2, 1, 9, 1), rank.ByWork}, {known(2, 0, topTick, 0), known(1, 0, 1, 0), rank.ByWork},
		{known(2, 0, 0, 3), known(1, 0, 0, 5), rank.ByTime}, {known(1, 0, 0, 3), known(2, 0, 0, 5), rank.ByTime}, {known(1, 5, 9, 4), known(2, 1, 10, 4), rank.ByTime}, {known(2, 0, 0, 0), known(1, 0, 0, topTick), rank.ByTime},
		{known(1, 5, 9, 9), known(2, 1, 10, 1), rank.ByGroup}, {at(four(0x0a000001), 79), at(four(0x0a000001), 80), rank.ByGroup}, {at(four(0x0a00fffe), 80), at(four(0x0a00ffff), 79), rank.ByGroup},
	} {
		for _, secret := range secrets() {
			checkOrder(t, c.a, c.b, c.by, secret)
		}
	}
}

// A peer that does not count precedes others by its number all the same.
func TestRa1AheadOfPeersThatDoNotCount(t *testing.T) {
	for _, secret := range secrets() {
		checkOrder(t, known(2, 0, 0, 0), known(1, 5, 0, 0), rank.ByPing, secret)
		checkOrder(t, known(2, -1, 0, 0), known(1, 0, 0, 0), rank.ByPing, secret)
		checkOrder(t, known(1, 0, 0, 0), known(2, 0, 0, 0), rank.ByPing, secret)
		checkOrder(t, known(2, 0, 5, 0), known(1, 0, 0, 0), rank.ByWork, secret)
		checkOrder(t, known(2, 0, 0, 0), known(1, 0, -1, 0), rank.ByWork, secret)
		checkOrder(t, known(1, 0, 0, 0), known(2, 0, 0, 0), rank.ByWork, secret)
	}
}

func TestRa1NobodyIsAheadOfItself(t *testing.T) {
	for _, by := range append(orders(), others()...) {
		for _, e := range ends() {
			p := known(1, 3, 4, 5)
			p.End = e
			for _, secret := range secrets() {
				checkAhead(t, p, p, by, secret, false)
			}
		}
	}
}

func TestRa1NobodyIsAheadInOtherOrders(t *testing.T) {
	l := []api.Peer{{}, known(1, 3, 4, 5), known(2, 5, 3, 4), known(2, 4, 5, 3), at(four(0x0b000001), 80), at(six(0x20010db800000000, 1), 80), at(four(1<<32), 0)}
	for _, by := range others() {
		for _, a := range l {
			for _, b := range l {
				for _, secret := range secrets() {
					checkAhead(t, a, b, by, secret, false)
				}
			}
		}
	}
}

// checkEachPair asks for each two numbers in the field that an order looks at, with the ends both ways round.
func checkEachPair(t *testing.T, of func(p *api.Peer) *int, by int, first func(a, b int) bool) {
	t.Helper()
	low, high := known(1, 7, 7, 7), known(2, 7, 7, 7)
	for _, a := range numbers() {
		for _, b := range numbers() {
			checkAhead(t, with(low, of, a), with(high, of, b), by, 1, first(a, b) || a == b)
			checkAhead(t, with(high, of, a), with(low, of, b), by, 1, first(a, b))
			checkAhead(t, with(low, of, a), with(low, of, b), by, 1, first(a, b))
		}
	}
}

func TestRa1AheadOfEachPairOfNumbers(t *testing.T) {
	less := func(a, b int) bool { return a < b }
	checkEachPair(t, ping, rank.ByPing, less)
	checkEachPair(t, work, rank.ByWork, func(a, b int) bool { return a > b })
	checkEachPair(t, since, rank.ByTime, less)
}

// What an order does not ask for changes nothing in it.
func TestRa1AheadGoesByItsOwnField(t *testing.T) {
	a, b := known(1, 3, 4, 3), known(2, 3, 4, 3)
	for _, by := range orders() {
		for _, f := range fields() {
			if f.name == asked(by) {
				continue
			}
			for _, n := range numbers() {
				checkOrder(t, with(a, f.of, n), b, by, 5)
				checkOrder(t, a, with(b, f.of, n), by, 5)
			}
		}
		in := a
		in.In = true
		checkOrder(t, in, b, by, 5)
		in = b
		in.In = true
		checkOrder(t, a, in, by, 5)
	}
}

// Equal numbers leave it to the ends, valid or not.
func TestRa1AheadOfEachPairOfEnds(t *testing.T) {
	l := ends()
	for i, e := range l {
		for j, f := range l {
			a, b := known(0, 3, 4, 5), known(0, 3, 4, 5)
			a.End, b.End = e, f
			for _, by := range []int{rank.ByPing, rank.ByWork, rank.ByTime} {
				for _, secret := range secrets() {
					checkAhead(t, a, b, by, secret, i < j)
				}
			}
			for _, secret := range secrets() {
				checkAhead(t, a, b, rank.ByGroup, secret, ahead(a, b, 1, secret))
			}
		}
	}
}

// hands are peers by a name; the last one's address is not valid.
func hands() map[string]api.Peer {
	return map[string]api.Peer{
		"10.0": at(four(0x0a000001), 80), "10.1": at(four(0x0a010001), 80), "11.0": at(four(0x0b000001), 80), "1.2": at(four(0x01020304), 80), "0.0": at(four(0), 80), "255.255": at(four(0xffffffff), 80),
		"2001:db8": at(six(0x20010db800000000, 1), 80), "::": at(six(0, 1), 80), "ffff:ffff": at(six(top, top), 80), "none": at(four(1<<32), 80),
	}
}

// The orders by group were worked out by another program, number by number.
func TestRa1ByGroupByHand(t *testing.T) {
	for _, c := range []struct {
		secret uint64
		names  []string
	}{
		{0, []string{"10.0", "2001:db8", "0.0", "11.0", "::", "255.255", "10.1", "1.2", "none", "ffff:ffff"}},
		{1, []string{"ffff:ffff", "0.0", "::", "2001:db8", "1.2", "11.0", "none", "255.255", "10.1", "10.0"}},
		{99, []string{"0.0", "10.0", "2001:db8", "ffff:ffff", "11.0", "255.255", "10.1", "1.2", "::", "none"}},
		{1<<63 - 1, []string{"ffff:ffff", "0.0", "2001:db8", "10.1", "11.0", "::", "none", "10.0", "1.2", "255.255"}},
		{top, []string{"10.1", "10.0", "ffff:ffff", "0.0", "11.0", "::", "255.255", "none", "1.2", "2001:db8"}},
	} {
		var l []api.Peer
		var row []int
		for i, name := range c.names {
			l = append(l, hands()[name])
			row = append(row, i)
		}
		for i := range l {
			checkRank(t, l, i, rank.ByGroup, c.secret, i)
			for j := range l {
				checkAhead(t, l[i], l[j], rank.ByGroup, c.secret, i < j)
			}
		}
		checkFirst(t, l, rank.ByGroup, len(l), c.secret, row)
		checkFirst(t, l, rank.ByGroup, 3, c.secret, []int{0, 1, 2})
		slices.Reverse(l)
		slices.Reverse(row)
		checkFirst(t, l, rank.ByGroup, len(l), c.secret, row)
	}
}

// All peers of a group have one number, whatever else their addresses are: the first 16 bits decide, or 32.
func TestRa1ByGroupGoesByTheGroup(t *testing.T) {
	for _, secret := range secrets() {
		for i := range 64 {
			for _, a := range []api.Addr{four(0x0a000001), six(0x20010db800000000, 1), six(0, 1<<40)} {
				lo, hi := a, a
				lo.Lo ^= 1 << i
				hi.Hi ^= 1 << i
				for _, b := range []api.Addr{lo, hi} {
					checkAhead(t, at(a, 80), at(b, 80), rank.ByGroup, secret, ahead(at(a, 80), at(b, 80), 1, secret))
					checkAhead(t, at(b, 80), at(a, 80), rank.ByGroup, secret, ahead(at(b, 80), at(a, 80), 1, secret))
				}
			}
		}
		checkOrder(t, at(four(0x0a000000), topPort), at(four(0x0a00ffff), 1), rank.ByGroup, secret)
		checkOrder(t, at(six(0x20010db800000000, 0), topPort), at(six(0x20010db8ffffffff, top), 1), rank.ByGroup, secret)
	}
}

// Peers whose addresses are not valid have the number of the zero subnet, all of them.
func TestRa1ByGroupOfNoAddress(t *testing.T) {
	for _, secret := range secrets() {
		for i, a := range wrong() {
			for j, b := range wrong() {
				checkAhead(t, at(a, 80), at(b, 80), rank.ByGroup, secret, sooner(end(a, 80), end(b, 80)))
				if i == j {
					checkOrder(t, at(a, -1), at(b, 0), rank.ByGroup, secret)
				}
			}
			for _, c := range []api.Addr{four(0), four(0x0a000001), six(0, 0), six(0, 0x0a000001), six(0, 1<<48)} {
				greater := mix.Of(secret, 4, 0, 0, 0) > mixed(secret, c)
				checkAhead(t, at(a, 80), at(c, 80), rank.ByGroup, secret, greater)
				checkAhead(t, at(c, 80), at(a, 80), rank.ByGroup, secret, !greater)
			}
		}
	}
}

// Groups whose numbers are equal by chance leave it to the ends, too.
func TestRa1ByGroupOfDifferentGroupsWithOneNumber(t *testing.T) {
	for _, c := range []struct {
		secret, lo, hi uint64
	}{
		{22682, 0x3dc10000, 0x9e44aa4400000000}, {33217, 0x10120000, 0x5f89f15f00000000}, {116760, 0x23280000, 0xbfe6afb900000000}, {126566, 0x67a90000, 0x46a5c01200000000},
	} {
		a, b := at(four(c.lo+1), 80), at(six(c.hi, 1), 80)
		if mixed(c.secret, a.End.Addr) != mixed(c.secret, b.End.Addr) {
			t.Fatal("the test itself: the numbers are not equal")
		}
		checkOrder(t, a, b, rank.ByGroup, c.secret)
		a.End.Port, b.End.Port = topPort, 1
		checkOrder(t, a, b, rank.ByGroup, c.secret)
		l := []api.Peer{b, at(six(c.hi, 0), 80), a, at(four(c.lo), 80), at(six(c.hi|1<<31, 0), 80)}
		checkFirst(t, l, rank.ByGroup, 5, c.secret, []int{3, 2, 1, 0, 4})
		checkRank(t, l, 0, rank.ByGroup, c.secret, 3)
	}
}

// rivals are peers of many groups, all different.
func rivals() []api.Peer {
	var l []api.Peer
	for n := range uint64(64) {
		l = append(l, at(four(0x0b000001+n<<16), 80), at(six(0x20020000_00000000+n<<32, 1), 80))
	}
	return append(l, at(four(1<<32), 80))
}

// The secrets were found by undoing the mixing: they give a group the least number, the greatest one, and those on both sides of the middle.
func TestRa1ByGroupAtTheLimitsOfNumbers(t *testing.T) {
	for _, c := range []struct {
		number, v4, v6 uint64
	}{
		{0, 0x31cbb607d5f40377, 0x72aa23cfe19aca29}, {1, 0x8962fac47d336d1c, 0xca71b5f847ecd547}, {1<<63 - 1, 0xe102893c232d3ae0, 0x540a9c477b072aa7},
		{1 << 63, 0x9a3b5183add93ae8, 0xe8ba8cb3cb1a7ae3}, {top - 1, 0xceb5819d353df434, 0x3eb1061256e2bc8b}, {top, 0x1c5c13052dc2dafe, 0xa8d6872a3bf584b3},
	} {
		holdLimit(t, at(four(0x0a000001), 80), c.v4, c.number)
		holdLimit(t, at(six(0x20010db800000000, 1), 80), c.v6, c.number)
	}
}

// holdLimit compares a peer whose group has a number with its rivals.
func holdLimit(t *testing.T, p api.Peer, secret, number uint64) {
	t.Helper()
	if mixed(secret, p.End.Addr) != number {
		t.Fatalf("the test itself: the number is not %#x", number)
	}
	before := 0
	for _, r := range rivals() {
		greater := mixed(secret, r.End.Addr) > number
		checkAhead(t, r, p, rank.ByGroup, secret, greater)
		checkAhead(t, p, r, rank.ByGroup, secret, !greater)
		if greater {
			before++
		}
	}
	l := append(rivals(), p)
	checkRank(t, l, len(l)-1, rank.ByGroup, secret, before)
	if got := rank.First(l, rank.ByGroup, len(l), secret); got[before] != len(l)-1 {
		t.Fatalf("with the number %#x, %+v is not the one behind %d", number, p, before)
	}
}

// The lowest bit of the numbers parts groups, too: here the address of IPv6, which comes later, has a number that is greater by 1.
func TestRa1ByGroupOfNumbersSideBySide(t *testing.T) {
	for _, c := range []struct {
		secret, lo, hi uint64
	}{
		{54987, 0x5e8c0000, 0xf605e96200000000}, {449656, 0x119d0000, 0x3d02be1000000000}, {449948, 0xf4480000, 0x5db1d0f300000000}, {507616, 0x43e60000, 0xa5742ac200000000},
	} {
		a, b := at(four(c.lo+1), 80), at(six(c.hi, 1), 80)
		if mixed(c.secret, a.End.Addr)+1 != mixed(c.secret, b.End.Addr) {
			t.Fatal("the test itself: the numbers are not side by side")
		}
		checkOrder(t, b, a, rank.ByGroup, c.secret)
		checkFirst(t, []api.Peer{a, b}, rank.ByGroup, 2, c.secret, []int{1, 0})
		checkRank(t, []api.Peer{a, b}, 0, rank.ByGroup, c.secret, 1)
	}
}

func TestRa1ExampleOfTheChapter(t *testing.T) {
	l := []api.Peer{known(1, 0, 0, 0), known(2, 5, 0, 0), known(3, 3, 0, 0)}
	checkOrder(t, l[2], l[1], rank.ByPing, 1)
	checkCounts(t, l[0], rank.ByPing, false)
	checkCounts(t, l[1], rank.ByPing, true)
	checkFirst(t, l, rank.ByPing, 3, 1, []int{2, 1})
	checkRank(t, l, 1, rank.ByPing, 1, 1)
	checkRank(t, l, 2, rank.ByPing, 1, 0)
}

// some is a list in which each order is another one.
func some() []api.Peer {
	return []api.Peer{known(1, 0, 9, 5), known(2, 5, 0, 4), known(3, 3, 10, 4), known(4, 5, 9, 1), known(5, -2, -9, -3)}
}

func TestRa1FirstByHand(t *testing.T) {
	for _, c := range []struct {
		by, n int
		want  []int
	}{
		{rank.ByGroup, 9, []int{0, 1, 2, 3, 4}}, {rank.ByGroup, 2, []int{0, 1}}, {rank.ByGroup, 1, []int{0}},
		{rank.ByPing, 9, []int{2, 1, 3}}, {rank.ByPing, 3, []int{2, 1, 3}}, {rank.ByPing, 2, []int{2, 1}}, {rank.ByPing, 1, []int{2}}, {rank.ByPing, 4, []int{2, 1, 3}},
		{rank.ByWork, 9, []int{2, 0, 3}}, {rank.ByWork, 3, []int{2, 0, 3}}, {rank.ByWork, 2, []int{2, 0}}, {rank.ByWork, 1, []int{2}},
		{rank.ByTime, 9, []int{4, 3, 1, 2, 0}}, {rank.ByTime, 5, []int{4, 3, 1, 2, 0}}, {rank.ByTime, 4, []int{4, 3, 1, 2}}, {rank.ByTime, 1, []int{4}}, {rank.ByTime, 6, []int{4, 3, 1, 2, 0}},
	} {
		checkFirst(t, some(), c.by, c.n, 7, c.want)
	}
}

func TestRa1FirstOfEachNumber(t *testing.T) {
	for _, by := range orders() {
		all := firsts(some(), by, 5, 7)
		for _, n := range numbers() {
			checkFirst(t, some(), by, n, 7, all[:max(0, min(n, len(all)))])
		}
	}
}

func TestRa1FirstOfNobody(t *testing.T) {
	for _, by := range append(orders(), others()...) {
		for _, n := range numbers() {
			for _, l := range [][]api.Peer{nil, {}} {
				checkFirst(t, l, by, n, 7, nil)
			}
		}
	}
	silent := []api.Peer{known(1, 0, 0, 0), known(2, -1, -1, 5), known(3, math.MinInt, math.MinInt, 5)}
	for _, n := range numbers() {
		checkFirst(t, silent, rank.ByPing, n, 7, nil)
		checkFirst(t, silent, rank.ByWork, n, 7, nil)
		for _, by := range others() {
			checkFirst(t, some(), by, n, 7, nil)
		}
	}
}

// Equal peers stay in the order of the list: here each number of peers has one number and one end.
func TestRa1FirstOfEqualPeers(t *testing.T) {
	for _, size := range []int{1, 2, 3, 11, 12, 13, 20, 21, 50, 300, 2000} {
		var l []api.Peer
		row := make([]int, size)
		for i := range row {
			row[i] = i
			l = append(l, known(1, 3, 4, 5))
			// What no order asks for does not part them.
			l[i].In, l[i].Score = i%2 == 0, api.Score{Points: size - i, At: i % 7}
		}
		for _, by := range orders() {
			checkFirst(t, l, by, size, 7, row)
			checkFirst(t, l, by, size+1, 7, row)
			checkFirst(t, l, by, size-1, 7, row[:size-1])
			checkFirst(t, l, by, 1, 7, row[:1])
			for _, i := range []int{0, size / 2, size - 1} {
				checkRank(t, l, i, by, 7, 0)
			}
		}
	}
}

func TestRa1FirstAnswersNewMemory(t *testing.T) {
	l := some()
	for _, by := range orders() {
		want := firsts(l, by, 9, 7)
		a, b := rank.First(l, by, 9, 7), rank.First(l, by, 9, 7)
		for i := range a {
			a[i] = -5
		}
		if !slices.Equal(b, want) {
			t.Fatalf("First is %v after another answer of it was changed, not %v", b, want)
		}
		checkFirst(t, l, by, 9, 7, want)
	}
}

func TestRa1RankByHand(t *testing.T) {
	for _, c := range []struct {
		by   int
		want []int
	}{
		{rank.ByGroup, []int{0, 1, 2, 3, 4}},
		// Peers that do not count have a rank, too: here nobody that counts has less Ping; all that count have more Work.
		{rank.ByPing, []int{0, 1, 0, 2, 0}}, {rank.ByWork, []int{1, 3, 0, 2, 3}}, {rank.ByTime, []int{4, 2, 3, 1, 0}}, {0, []int{0, 0, 0, 0, 0}}, {5, []int{0, 0, 0, 0, 0}}, {-1, []int{0, 0, 0, 0, 0}},
	} {
		for i, want := range c.want {
			checkRank(t, some(), i, c.by, 7, want)
		}
	}
}

func TestRa1RankOfNoIndex(t *testing.T) {
	for _, by := range append(orders(), others()...) {
		for _, l := range [][]api.Peer{nil, {}, some()[:1], some()} {
			for _, i := range append(numbers(), -2, 3, 4, 5, 6, len(l), len(l)+1) {
				if i < 0 || i >= len(l) {
					checkRank(t, l, i, by, 7, -1)
				}
			}
		}
	}
}

func TestRa1RankInOtherOrders(t *testing.T) {
	for _, by := range others() {
		for i := range some() {
			checkRank(t, some(), i, by, 7, 0)
		}
	}
}

// few are peers some of which are equal, share an end, do not count, or are not valid.
func few() []api.Peer {
	twin := known(1, 5, 4, 3)
	twin.In = true
	far := known(1, 3, 5, 4)
	far.End.Addr = six(0x20010db800000000, 1)
	return []api.Peer{{}, known(1, 5, 4, 3), twin, known(1, 4, 4, 3), known(2, 0, 5, 3), known(0x10000, 5, 0, 9), far, known(1<<32, -1, -1, -1)}
}

// eachFew hands out all lists of at most so many of the few.
func eachFew(most int, see func([]api.Peer)) {
	var more func(l []api.Peer)
	more = func(l []api.Peer) {
		see(l)
		if len(l) == most {
			return
		}
		for _, p := range few() {
			more(append(slices.Clone(l), p))
		}
	}
	more(nil)
}

func TestRa1OfEachFew(t *testing.T) {
	eachFew(4, func(l []api.Peer) {
		for by := range 6 {
			checkList(t, l, by, 99)
		}
	})
}

func TestRa1AheadOfEachTwoOfTheFew(t *testing.T) {
	for _, a := range few() {
		for _, b := range few() {
			for _, by := range append(orders(), others()...) {
				for _, secret := range secrets() {
					checkAhead(t, a, b, by, secret, ahead(a, b, by, secret))
				}
			}
		}
	}
}

func TestRa1OfCrowds(t *testing.T) {
	state := uint64(18)
	for size := range 60 {
		for _, by := range orders() {
			checkList(t, crowd(size, &state), by, secrets()[size%6])
		}
	}
}

// arranged are the indexes of those that count, put in order by the library.
func arranged(l []api.Peer, by int, secret uint64) []int {
	var row []int
	for i, p := range l {
		if counts(p, by) {
			row = append(row, i)
		}
	}
	sort.SliceStable(row, func(i, j int) bool { return ahead(l[row[i]], l[row[j]], by, secret) })
	return row
}

func TestRa1OfLongLists(t *testing.T) {
	state := uint64(81)
	for _, size := range []int{200, 1000, 5000, 65536} {
		l := crowd(size, &state)
		for _, by := range orders() {
			row := arranged(l, by, 99)
			for _, n := range []int{64, len(row) - 1, len(row), math.MaxInt} {
				checkFirst(t, l, by, n, 99, row[:min(n, len(row))])
			}
			for _, i := range []int{0, 1, size / 2, size - 1} {
				checkRank(t, l, i, by, 99, ranked(l, i, by, 99))
			}
		}
	}
}

// Many goroutines may ask about one list at once, and about another one each.
func TestRa1ManyGoroutines(t *testing.T) {
	state := uint64(5)
	l := crowd(300, &state)
	var all sync.WaitGroup
	for k := range 16 {
		own := crowd(50+k, &state)
		all.Go(func() {
			for _, by := range orders() {
				for _, m := range [][]api.Peer{l, own} {
					if got := rank.First(m, by, len(m), 7); !slices.Equal(got, arranged(m, by, 7)) {
						t.Errorf("First of %d peers by %d is %v", len(m), by, got)
					}
					if got := rank.Rank(m, k, by, 7); got != ranked(m, k, by, 7) {
						t.Errorf("Rank of %d of %d peers by %d is %d", k, len(m), by, got)
					}
				}
			}
		})
	}
	all.Wait()
}

// peersOf are those of some indexes.
func peersOf(l []api.Peer, row []int) []api.Peer {
	var m []api.Peer
	for _, i := range row {
		m = append(m, l[i])
	}
	return m
}

// eachOrder hands out a list in every order.
func eachOrder(l []api.Peer, see func([]api.Peer)) {
	var swap func(n int)
	l = slices.Clone(l)
	swap = func(n int) {
		if n == len(l) {
			see(l)
			return
		}
		for i := n; i < len(l); i++ {
			l[n], l[i] = l[i], l[n]
			swap(n + 1)
			l[n], l[i] = l[i], l[n]
		}
	}
	swap(0)
}

// differing are peers with different ends, many of whose numbers are equal; two of them are not valid.
func differing() []api.Peer {
	near, far := known(1, 4, 4, 3), known(1, 4, 5, 4)
	near.End.Port, far.End.Addr = 81, six(0x20010db800000000, 1)
	return []api.Peer{known(1, 4, 4, 3), near, known(2, 0, 5, 3), known(0x10000, 5, 0, 9), far, {}, known(1<<32, 4, 0, 3)}
}

func TestRa2OrderIsUniqueHoweverAListIsPermuted(t *testing.T) {
	for _, by := range orders() {
		for _, secret := range []uint64{0, 99, top} {
			l := differing()
			for n := range len(l) + 2 {
				want := peersOf(l, firsts(l, by, n, secret))
				eachOrder(l, func(m []api.Peer) {
					if got := peersOf(m, rank.First(m, by, n, secret)); !slices.Equal(got, want) {
						t.Fatalf("the first %d by %d of %+v are %+v, not %+v", n, by, m, got, want)
					}
				})
			}
		}
	}
}

func TestRa2RankIsUniqueHoweverAListIsPermuted(t *testing.T) {
	l := differing()
	for _, by := range orders() {
		want := map[api.End]int{}
		for i, p := range l {
			want[p.End] = ranked(l, i, by, 99)
		}
		eachOrder(l, func(m []api.Peer) {
			for i, p := range m {
				if got := rank.Rank(m, i, by, 99); got != want[p.End] {
					t.Fatalf("Rank(%+v, %d, %d) is %d, not %d", m, i, by, got, want[p.End])
				}
			}
		})
	}
}

func TestRa2OrderOfLongListsIsUnique(t *testing.T) {
	state := uint64(2)
	for _, size := range []int{12, 13, 50, 500, 3000} {
		l := apart(size, &state)
		for _, by := range orders() {
			want := peersOf(l, rank.First(l, by, size, 5))
			for range 5 {
				m := shuffled(l, &state)
				if !slices.Equal(peersOf(m, rank.First(m, by, size, 5)), want) {
					t.Fatalf("the order by %d of %d peers depends on their list", by, size)
				}
			}
		}
	}
}

func TestRa2TheFirstAreThoseWhoseRankIsBelow(t *testing.T) {
	state := uint64(3)
	lists := [][]api.Peer{nil, differing(), some()}
	for size := range 40 {
		lists = append(lists, apart(size, &state))
	}
	for _, l := range lists {
		for _, by := range orders() {
			for n := -1; n <= len(l)+1; n++ {
				var want []int
				for i, p := range l {
					if rank.Counts(p, by) && rank.Rank(l, i, by, 99) < n {
						want = append(want, i)
					}
				}
				got := rank.First(l, by, n, 99)
				slices.Sort(got)
				if !slices.Equal(got, want) {
					t.Fatalf("the first %d by %d of %+v are %v, not %v", n, by, l, got, want)
				}
			}
		}
	}
}

// The one at a place has as many ahead of it.
func TestRa2RankIsThePlaceAmongTheFirst(t *testing.T) {
	state := uint64(4)
	for size := range 40 {
		l := apart(size, &state)
		for _, by := range orders() {
			for place, i := range rank.First(l, by, size, 1) {
				checkRank(t, l, i, by, 1, place)
			}
		}
	}
}

// Of two peers with different ends exactly one precedes, and who precedes one precedes all that one precedes.
func TestRa2AheadIsAnOrder(t *testing.T) {
	state := uint64(6)
	for _, l := range [][]api.Peer{differing(), some(), apart(30, &state)} {
		for _, by := range orders() {
			for _, a := range l {
				for _, b := range l {
					one, other := rank.Ahead(a, b, by, 99), rank.Ahead(b, a, by, 99)
					if one && other || !one && !other && endp.Compare(a.End, b.End) != 0 {
						t.Fatalf("by %d, %+v precedes %+v: %v; the other way round: %v", by, a, b, one, other)
					}
					for _, c := range l {
						if one && rank.Ahead(b, c, by, 99) {
							checkAhead(t, a, c, by, 99, true)
						}
					}
				}
			}
		}
	}
}
