package siege_test

import (
	"math"
	"slices"
	"sync"
	"testing"

	"doorman/api"
	"doorman/evict"
	"doorman/rank"
	"doorman/siege"
)

const (
	topTick  = 1 << 40
	topPing  = 1 << 20
	topPort  = 65535
	topLimit = 65535
	topQuota = 64
	top      = math.MaxUint64
	six2001  = 0x20010db8 << 32
)

func four(n uint64) api.Addr { return api.Addr{Lo: n} }

func six(hi, lo uint64) api.Addr { return api.Addr{V6: true, Hi: hi, Lo: lo} }

// known is a peer that came from an address, with its numbers.
func known(a api.Addr, ping, work, since int) api.Peer {
	return api.Peer{End: api.End{Addr: a, Port: 80}, In: true, Ping: ping, Work: work, Since: since}
}

// in is a peer that came from the n-th address of a group, 10.g.0.0/16, and of which nothing else is known.
func in(g, n uint64, since int) api.Peer { return known(four(10<<24+g<<16+n), 0, 0, since) }

// out is the same peer, if it was dialled (or is not there yet).
func out(p api.Peer) api.Peer {
	p.In = false
	return p
}

// came is the same peer, once it is there.
func came(p api.Peer) api.Peer {
	p.In = true
	return p
}

// ping is the same peer with a latency.
func ping(p api.Peer, ms int) api.Peer {
	p.Ping = ms
	return p
}

// port is the same peer at another port.
func port(p api.Peer, n int) api.Peer {
	p.End.Port = n
	return p
}

// amounts are numbers of both signs: ordinary ones, the limits and those beside them, and extreme ones.
func amounts() []int {
	return []int{math.MinInt, math.MinInt + 1, -1 << 32, 1 - 1<<32, -topQuota - 1, -2, -1, 0, 1, 2, 3, 5, 10, topQuota - 1, topQuota, topQuota + 1, 255, 256, 257, topLimit - 1, topLimit, topLimit + 1, 1<<31 - 1, 1 << 31, 1 << 32, 1<<32 + 1, math.MaxInt - 1, math.MaxInt}
}

// numbers are those of peers.
func numbers() []int {
	return []int{math.MinInt, -1, 0, 1, 2, topPing, topPing + 1, topTick, topTick + 1, math.MaxInt}
}

// wrong are addresses that are not valid.
func wrong() []api.Addr {
	return []api.Addr{four(1 << 32), four(1<<32 + 10<<24), four(top), {Hi: 1}, {Hi: six2001, Lo: 1}, {Hi: top, Lo: top}, six(0, 0xffff00000000), six(0, 0xffff0a000001)}
}

// part is one of the four quotas, of which each has its order.
type part struct {
	by int
	of func(q *api.Quota) *int
}

func parts() []part {
	return []part{
		{rank.ByGroup, func(q *api.Quota) *int { return &q.Group }},
		{rank.ByPing, func(q *api.Quota) *int { return &q.Ping }},
		{rank.ByWork, func(q *api.Quota) *int { return &q.Work }},
		{rank.ByTime, func(q *api.Quota) *int { return &q.Time }},
	}
}

// only is a place with so many slots for one order's first, and none for the others'.
func only(p part, n int) siege.Site {
	s := siege.Site{Secret: 99}
	*p.of(&s.Quota) = n
	return s
}

func inbound(l []api.Peer) int {
	n := 0
	for _, p := range l {
		if p.In {
			n++
		}
	}
	return n
}

// arrived says once more what becomes of peers when one comes, peer by peer.
func arrived(l []api.Peer, p api.Peer, s siege.Site) ([]api.Peer, api.End, api.Errno) {
	for _, other := range l {
		if other.End == p.End {
			return l, api.End{}, api.ErrTwice
		}
	}
	stay, gone := l, api.End{}
	if inbound(l) >= s.Most {
		e, ok := evict.Choose(l, s.Quota, s.Secret)
		if !ok {
			return l, api.End{}, api.ErrFull
		}
		stay, gone = nil, e
		found := false
		for _, other := range l {
			if !found && other.End == e {
				found = true
				continue
			}
			stay = append(stay, other)
		}
	}
	return append(slices.Clone(stay), came(p)), gone, api.OK
}

// ran says once more what becomes of peers when some come.
func ran(l, news []api.Peer, s siege.Site) []api.Peer {
	for _, p := range news {
		l, _, _ = arrived(l, p, s)
	}
	return l
}

// within says once more whether a peer is safe: it counts those that precede it, order by order.
func within(l, news []api.Peer, i int, s siege.Site) bool {
	if i < 0 || i >= len(l) || !l[i].In {
		return false
	}
	for _, p := range parts() {
		before := 0
		for _, other := range l {
			if other.In && rank.Counts(other, p.by) && rank.Ahead(other, l[i], p.by, s.Secret) {
				before++
			}
		}
		for _, other := range news {
			if rank.Counts(other, p.by) && rank.Ahead(other, l[i], p.by, s.Secret) {
				before++
			}
		}
		if rank.Counts(l[i], p.by) && before < *p.of(&s.Quota) {
			return true
		}
	}
	return false
}

// lined hands in lists with something behind them, and asks that nothing is written to them.
func lined(t *testing.T, l, news []api.Peer, ask func(l, news []api.Peer)) {
	t.Helper()
	behind := []api.Peer{in(77, 1, topTick), in(77, 2, topTick), in(77, 3, -9)}
	own, others := slices.Concat(l, behind), slices.Concat(news, behind)
	before, earlier := slices.Clone(own), slices.Clone(others)
	ask(own[:len(l)], others[:len(news)])
	if !slices.Equal(own, before) {
		t.Fatalf("%+v was changed to %+v", before, own)
	}
	if !slices.Equal(others, earlier) {
		t.Fatalf("%+v was changed to %+v", earlier, others)
	}
}

func checkArrive(t *testing.T, l []api.Peer, p api.Peer, s siege.Site, want []api.Peer, gone api.End, code api.Errno) {
	t.Helper()
	lined(t, l, nil, func(l, _ []api.Peer) {
		got, e, n := siege.Arrive(l, p, s)
		if !slices.Equal(got, want) || e != gone || n != code {
			t.Fatalf("Arrive(%+v, %+v, %+v) is %+v, %+v, %d, not %+v, %+v, %d", l, p, s, got, e, n, want, gone, code)
		}
	})
}

// checkJoins asks that a peer comes and nobody goes.
func checkJoins(t *testing.T, l []api.Peer, p api.Peer, s siege.Site) {
	t.Helper()
	checkArrive(t, l, p, s, append(slices.Clone(l), came(p)), api.End{}, api.OK)
}

// checkReplaces asks that a peer comes and the one at a place goes, whose end is told.
func checkReplaces(t *testing.T, l []api.Peer, p api.Peer, s siege.Site, i int) {
	t.Helper()
	checkArrive(t, l, p, s, append(slices.Delete(slices.Clone(l), i, i+1), came(p)), l[i].End, api.OK)
}

// checkRefused asks that nothing changes.
func checkRefused(t *testing.T, l []api.Peer, p api.Peer, s siege.Site, code api.Errno) {
	t.Helper()
	checkArrive(t, l, p, s, l, api.End{}, code)
}

// checkOne asks for what the second form says.
func checkOne(t *testing.T, l []api.Peer, p api.Peer, s siege.Site) {
	t.Helper()
	want, gone, code := arrived(l, p, s)
	checkArrive(t, l, p, s, want, gone, code)
}

func checkRun(t *testing.T, l, news []api.Peer, s siege.Site, want []api.Peer) {
	t.Helper()
	lined(t, l, news, func(l, news []api.Peer) {
		if got := siege.Run(l, news, s); !slices.Equal(got, want) {
			t.Fatalf("Run(%+v, %+v, %+v) is %+v, not %+v", l, news, s, got, want)
		}
	})
}

func checkSafe(t *testing.T, l, news []api.Peer, i int, s siege.Site, want bool) {
	t.Helper()
	lined(t, l, news, func(l, news []api.Peer) {
		if got := siege.Safe(l, news, i, s); got != want {
			t.Fatalf("Safe(%+v, %+v, %d, %+v) is %v", l, news, i, s, got)
		}
	})
}

// checkEach asks of each peer of a list, and beside it, for what the second form says.
func checkEach(t *testing.T, l, news []api.Peer, s siege.Site) {
	t.Helper()
	for i := -1; i <= len(l); i++ {
		checkSafe(t, l, news, i, s, within(l, news, i, s))
	}
}

// checkThose asks which peers of a list are safe.
func checkThose(t *testing.T, l, news []api.Peer, s siege.Site, safe ...int) {
	t.Helper()
	for i := -1; i <= len(l); i++ {
		checkSafe(t, l, news, i, s, slices.Contains(safe, i))
	}
}

// draw is a plain sequence of numbers that is the same each time.
func draw(state *uint64) int {
	*state = *state*6364136223846793005 + 1442695040888963407
	return int(*state >> 8)
}

// some is a list of any length, with many equal numbers, groups and ends, and some addresses that are not valid.
func some(n int, state *uint64) []api.Peer {
	l := make([]api.Peer, n)
	for i := range l {
		a := four(uint64(10<<24 + draw(state)%4<<16 + draw(state)%5))
		switch draw(state) % 8 {
		case 0, 1, 2:
			a = six(uint64(six2001+draw(state)%4<<32+draw(state)%3), uint64(draw(state)%5))
		case 3:
			a = wrong()[draw(state)%len(wrong())]
		}
		l[i] = known(a, draw(state)%9-1, draw(state)%9-1, draw(state)%9-1)
		l[i].End.Port += draw(state) % 3
		l[i].In, l[i].Score = draw(state)%3 > 0, api.Score{Points: draw(state) % 9, At: draw(state) % 9}
	}
	return l
}

// apart is two lists of peers with different ends.
func apart(n, m int, state *uint64) ([]api.Peer, []api.Peer) {
	l := some(n+m, state)
	for i := range l {
		l[i].End.Port = 1 + i
	}
	for i := range l {
		j := i + draw(state)%(len(l)-i)
		l[i], l[j] = l[j], l[i]
	}
	return l[:n:n], l[n:]
}

// drawn is how many may come, from -1 to a most, and quotas from -1 to another one.
func drawn(most, quota int, state *uint64) siege.Site {
	amount := func() int { return draw(state)%(quota+2) - 1 }
	q := api.Quota{Group: amount(), Ping: amount(), Work: amount(), Time: amount()}
	return siege.Site{Most: draw(state)%(most+2) - 1, Quota: q, Secret: uint64(draw(state))}
}

// few are peers some of which are equal, share an end, do not count, are not valid, or were dialled.
func few() []api.Peer {
	p := known(four(0x0a010001), 5, 4, 3)
	return []api.Peer{{}, {In: true}, p, out(p), known(four(0x0a010001), 4, 4, 5), known(four(0x0a010002), 0, 5, 3), known(four(0x0a020001), 3, 0, 9), known(six(six2001, 1), 3, 0, 4), known(four(1<<32), -1, -1, -1), out(known(four(0x0a020002), 1, 9, 1))}
}

// eachFew hands out all lists of at most so many of the few.
func eachFew(most int, see func([]api.Peer)) {
	var more func(l []api.Peer)
	more = func(l []api.Peer) {
		see(l)
		if len(l) == most {
			return
		}
		for _, p := range few() {
			more(append(slices.Clone(l), p))
		}
	}
	more(nil)
}

// small are a few quotas.
func small() []api.Quota {
	return []api.Quota{{}, {Group: 1}, {Ping: 1}, {Work: 1}, {Time: 1}, {Ping: 2}, {Group: 1, Ping: 1, Work: 1, Time: 1}, {Group: -1, Time: 2}}
}

func TestSi1JoinsWhileThereIsRoom(t *testing.T) {
	s := siege.Site{Most: 2}
	for _, l := range [][]api.Peer{
		nil, {}, {in(1, 1, 5)}, {out(in(1, 1, 5))}, {out(in(1, 1, 5)), out(in(1, 2, 5)), out(in(1, 3, 5))}, {out(in(1, 1, 5)), in(1, 2, 5), out(in(1, 3, 5))},
		{in(9, 9, -5)}, {{}, {}, {}}, {{In: true}}, {{In: true}, {}}, {known(four(1<<32), 1, 1, 1)},
	} {
		for _, p := range []api.Peer{in(1, 9, 5), out(in(1, 9, 5)), known(six(six2001, 1), 3, 4, 5), out(known(six(six2001, 1), 3, 4, 5)), known(four(1<<40), 1, 1, 1), port(in(1, 1, 5), 81), port(in(1, 2, 5), 0)} {
			for _, q := range append(small(), api.Quota{Group: 64, Ping: 64, Work: 64, Time: 64}) {
				s.Quota = q
				checkJoins(t, l, p, s)
			}
		}
	}
}

// A peer that comes is In, whatever it said before, and all else of it stays as it is, also what is beyond the limits.
func TestSi1OnlyInChanges(t *testing.T) {
	for _, n := range numbers() {
		for _, m := range numbers() {
			for _, a := range append(wrong(), four(7), six(top, top)) {
				p := api.Peer{End: api.End{Addr: a, Port: m}, Since: n, Score: api.Score{Points: m, At: n}, Ping: m, Work: n}
				other := api.Peer{End: api.End{Addr: six(1, 1), Port: n}, Since: m, Score: api.Score{Points: n, At: m}, Ping: n, Work: m}
				for _, p := range []api.Peer{p, came(p)} {
					checkJoins(t, nil, p, siege.Site{Most: 1})
					checkJoins(t, []api.Peer{other}, p, siege.Site{Most: 1})
					checkReplaces(t, []api.Peer{other, came(other)}, p, siege.Site{Most: 1}, 0)
					checkReplaces(t, []api.Peer{in(1, 1, 1), came(other), out(in(1, 2, 2))}, p, siege.Site{Most: 2, Quota: api.Quota{Ping: 0, Time: 1}, Secret: top}, goerOfTwo(1, m))
				}
			}
		}
	}
}

// goerOfTwo is the place of the one of two peers alone in their groups, since two ticks, that goes if the longest stay is protected.
func goerOfTwo(first, second int) int {
	if first > second {
		return 0
	}
	return 1
}

func TestSi1Twice(t *testing.T) {
	a := in(1, 1, 5)
	for _, l := range [][]api.Peer{{a}, {out(a)}, {a, a}, {in(2, 1, 1), a}, {in(2, 1, 1), out(a), in(2, 2, 2)}, {a, in(2, 1, 1), in(2, 2, 2), in(2, 3, 3)}, {ping(a, 9)}} {
		for _, most := range amounts() {
			for _, q := range small() {
				s := siege.Site{Most: most, Quota: q, Secret: 7}
				for _, p := range []api.Peer{a, out(a), ping(a, 1), in(1, 1, 99)} {
					checkRefused(t, l, p, s, api.ErrTwice)
				}
			}
		}
	}
}

// An end is another one if any of its four numbers is.
func TestSi1TwiceGoesByTheWholeEnd(t *testing.T) {
	s := siege.Site{Most: 100}
	ends := []api.End{{}, {Port: 1}, {Port: -1}, {Addr: api.Addr{V6: true}}, {Addr: four(1)}, {Addr: api.Addr{Hi: 1}}, {Addr: six(1, 1), Port: 1}, {Addr: four(1), Port: 1}, {Addr: six(0, 1)}, {Addr: four(1 << 63)}, {Addr: four(top), Port: math.MaxInt}, {Port: math.MinInt}}
	for _, e := range ends {
		for _, f := range ends {
			for _, l := range [][]api.Peer{{{End: e}}, {{End: e, In: true, Since: 9}}, {in(1, 1, 1), {End: e, In: true}, in(1, 2, 1)}} {
				if e == f {
					checkRefused(t, l, api.Peer{End: f, Since: 3}, s, api.ErrTwice)
				} else {
					checkJoins(t, l, api.Peer{End: f, Since: 3}, s)
				}
			}
		}
	}
}

// A peer that is there already is told so also where nobody may come.
func TestSi1TwiceComesBeforeFull(t *testing.T) {
	for _, most := range []int{math.MinInt, -1, 0, 1} {
		s := siege.Site{Most: most, Quota: api.Quota{Time: 9}}
		l := []api.Peer{in(1, 1, 5), out(in(1, 2, 6))}
		checkRefused(t, l, in(1, 1, 5), s, api.ErrTwice)
		checkRefused(t, l, in(1, 2, 5), s, api.ErrTwice)
		checkRefused(t, l, in(1, 3, 5), s, api.ErrFull)
	}
}

// If all are protected, or all that are there were dialled, nobody goes and nobody comes.
func TestSi1Full(t *testing.T) {
	for _, most := range []int{math.MinInt, -topLimit, -1, 0} {
		for _, l := range [][]api.Peer{nil, {}, {out(in(1, 1, 5))}, {out(in(1, 1, 5)), {}}} {
			for _, q := range small() {
				checkRefused(t, l, in(9, 9, 9), siege.Site{Most: most, Quota: q}, api.ErrFull)
				checkRefused(t, l, out(in(9, 9, 9)), siege.Site{Most: most, Quota: q}, api.ErrFull)
			}
		}
	}
	l := []api.Peer{in(1, 1, 5), ping(in(1, 2, 9), 4), out(in(1, 3, 1)), ping(in(2, 1, 7), 3)}
	for _, q := range []api.Quota{{Group: 3}, {Time: 3}, {Group: 64, Ping: 64, Work: 64, Time: 64}, {Ping: 2, Time: 1}, {Ping: 1, Time: 2}, {Group: 1, Time: 2}, {Group: 2, Time: 1}, {Time: math.MaxInt}} {
		for most := -1; most <= 3; most++ {
			checkRefused(t, l, in(9, 9, 9), siege.Site{Most: most, Quota: q}, api.ErrFull)
		}
		for most := 4; most <= 6; most++ {
			checkJoins(t, l, in(9, 9, 9), siege.Site{Most: most, Quota: q})
		}
	}
}

func TestSi1Replaces(t *testing.T) {
	l := []api.Peer{in(1, 1, 5), out(in(1, 2, 99)), in(1, 3, 9), ping(in(2, 1, 30), 7), in(1, 4, 7), out(in(3, 1, 1))}
	for _, c := range []struct {
		q    api.Quota
		goes int
	}{
		{api.Quota{}, 2}, {api.Quota{Time: 1}, 2}, {api.Quota{Time: 2}, 3}, {api.Quota{Ping: 1}, 2}, {api.Quota{Ping: 9}, 2}, {api.Quota{Work: 9}, 2}, {api.Quota{Ping: 1, Time: 2}, 2}, {api.Quota{Time: 3}, 3}, {api.Quota{Group: -1, Ping: -1, Work: -1, Time: -1}, 2},
	} {
		for most := -2; most <= 4; most++ {
			for _, p := range []api.Peer{in(9, 9, 9), out(in(9, 9, 9)), ping(in(1, 9, 99), 1), port(in(1, 3, 9), 81)} {
				checkReplaces(t, l, p, siege.Site{Most: most, Quota: c.q, Secret: 9}, c.goes)
			}
		}
		for most := 5; most <= 7; most++ {
			checkJoins(t, l, in(9, 9, 9), siege.Site{Most: most, Quota: c.q, Secret: 9})
		}
	}
}

// Whoever is first, in the middle or last may go; the others keep their order, and the new one stands behind them.
func TestSi1ReplacesAtEachPlace(t *testing.T) {
	for size := 1; size <= 8; size++ {
		for goes := range size {
			var l []api.Peer
			for i := range size {
				l = append(l, in(1, uint64(i), 5))
			}
			l[goes].Since = 6
			checkReplaces(t, l, in(1, 99, 7), siege.Site{Most: size}, goes)
			checkReplaces(t, l, in(1, 99, 7), siege.Site{Most: size - 1}, goes)
			checkJoins(t, l, in(1, 99, 7), siege.Site{Most: size + 1})
		}
	}
}

// The one that comes takes no part in the choice: it is neither protected, nor sent away, nor one of a crowd.
func TestSi1NewcomerTakesNoPart(t *testing.T) {
	l := []api.Peer{ping(in(1, 1, 5), 3), in(2, 1, 6), in(2, 2, 7)}
	for _, p := range []api.Peer{ping(in(1, 2, 0), 1), in(1, 3, 99), in(2, 3, 99), known(four(0), 1, 99, -99), known(six(top, top), 0, 0, topTick)} {
		checkReplaces(t, l, p, siege.Site{Most: 3}, 2)
		checkReplaces(t, l, p, siege.Site{Most: 3, Quota: api.Quota{Ping: 1}}, 2)
		checkReplaces(t, l, p, siege.Site{Most: 3, Quota: api.Quota{Ping: 1, Time: 1}}, 2)
		checkReplaces(t, l, p, siege.Site{Most: 3, Quota: api.Quota{Time: 2}}, 2)
	}
	checkReplaces(t, []api.Peer{in(1, 1, 5), in(2, 1, 6)}, in(1, 2, 7), siege.Site{Most: 2}, 1)
	checkReplaces(t, []api.Peer{in(1, 1, 7), in(2, 1, 6)}, in(2, 2, 9), siege.Site{Most: 2}, 0)
}

// Of several peers with the end of the one that goes the first is removed, be it protected or dialled.
func TestSi1RemovesTheFirstWithTheEnd(t *testing.T) {
	a := in(1, 1, 5)
	p := in(9, 9, 9)
	checkReplaces(t, []api.Peer{ping(a, 1), ping(a, 2)}, p, siege.Site{Most: 2, Quota: api.Quota{Ping: 1}}, 0)
	checkReplaces(t, []api.Peer{ping(a, 2), ping(a, 1)}, p, siege.Site{Most: 2, Quota: api.Quota{Ping: 1}}, 0)
	checkReplaces(t, []api.Peer{out(a), a}, p, siege.Site{Most: 1}, 0)
	checkReplaces(t, []api.Peer{a, out(a)}, p, siege.Site{Most: 1}, 0)
	checkReplaces(t, []api.Peer{out(in(2, 1, 1)), out(a), in(2, 2, 2), a, a}, p, siege.Site{Most: 3}, 1)
	checkReplaces(t, []api.Peer{a, a, a}, p, siege.Site{Most: 3, Quota: api.Quota{Time: 2}}, 0)
	checkRefused(t, []api.Peer{a, a, a}, p, siege.Site{Most: 3, Quota: api.Quota{Time: 3}}, api.ErrFull)
	checkReplaces(t, []api.Peer{{}, {In: true}}, p, siege.Site{Most: 1}, 0)
}

// The end of the one that goes may be the zero end.
func TestSi1ZeroEndGoes(t *testing.T) {
	checkReplaces(t, []api.Peer{out(in(1, 1, 1)), {In: true}}, in(1, 2, 3), siege.Site{Most: 1}, 1)
	checkRefused(t, []api.Peer{{In: true}}, api.Peer{}, siege.Site{Most: 1}, api.ErrTwice)
	checkJoins(t, nil, api.Peer{}, siege.Site{Most: 1})
	checkReplaces(t, []api.Peer{in(1, 1, 1)}, api.Peer{}, siege.Site{Most: 1}, 0)
}

// Only a quota by group asks for the secret: by it another one of four groups is protected.
func TestSi1SecretOfTheSite(t *testing.T) {
	l := []api.Peer{known(four(0x0a000001), 0, 0, 0), known(four(0x0a010001), 0, 0, 0), known(four(0x0b000001), 0, 0, 0), known(four(0), 0, 0, 0), known(six(six2001, 1), 0, 0, 0)}
	// The orders by group were worked out by another program (see the tests of layer 18); at one tick the last end goes.
	for _, c := range []struct {
		secret     uint64
		group, all int
	}{
		{0, 4, 2}, {1, 4, 2}, {99, 4, 4}, {1<<63 - 1, 4, 2}, {top, 4, 4},
	} {
		s := siege.Site{Most: 5, Quota: api.Quota{Group: 1}, Secret: c.secret}
		checkReplaces(t, l, in(9, 9, 9), s, c.group)
		s.Quota.Group = 2
		checkReplaces(t, l, in(9, 9, 9), s, c.all)
		s.Quota = api.Quota{Ping: 3}
		checkReplaces(t, l, in(9, 9, 9), s, 4)
	}
}

func TestSi1EachMost(t *testing.T) {
	state := uint64(1)
	l, _ := apart(20, 0, &state)
	n := inbound(l)
	for most := -3; most <= 23; most++ {
		for _, q := range small() {
			s := siege.Site{Most: most, Quota: q, Secret: 9}
			checkOne(t, l, in(77, 7, 7), s)
			if most > n {
				checkJoins(t, l, in(77, 7, 7), s)
			}
		}
	}
	for _, most := range amounts() {
		for _, q := range small() {
			checkOne(t, l, in(77, 7, 7), siege.Site{Most: most, Quota: q, Secret: 9})
		}
	}
}

func TestSi1EachAmountOfEachQuota(t *testing.T) {
	state := uint64(2)
	l, _ := apart(90, 0, &state)
	for _, p := range parts() {
		for _, n := range amounts() {
			s := only(p, n)
			s.Most = 3
			checkOne(t, l, in(77, 7, 7), s)
			checkOne(t, few(), in(77, 7, 7), s)
		}
	}
}

// At the limit there is room for the last of 65535, and none for the next one.
func TestSi1MostAtTheLimit(t *testing.T) {
	l := make([]api.Peer, topLimit)
	for i := range l {
		n := i * 7919 % len(l)
		l[i] = known(six(uint64(six2001+n/4<<32), uint64(n)), 1+n, 0, n)
	}
	s := siege.Site{Most: topLimit, Quota: api.Quota{Group: 0, Ping: topQuota, Time: topQuota}, Secret: 9}
	p := in(1, 1, 1)
	checkJoins(t, l[1:], p, s)
	// The last three, 65532 to 65534, are one group; all before have four each.
	goes := slices.IndexFunc(l, func(p api.Peer) bool { return p.Since == 65531 })
	checkReplaces(t, l, p, s, goes)
	checkReplaces(t, append(l, in(1, 2, 2)), p, s, goes)
	s.Most = topLimit + 1
	checkJoins(t, l, p, s)
}

func TestSi1AllShortLists(t *testing.T) {
	eachFew(3, func(l []api.Peer) {
		for _, p := range append(few(), out(in(1, 9, 9))) {
			for most := range 4 {
				for _, q := range small() {
					checkOne(t, l, p, siege.Site{Most: most, Quota: q, Secret: 99})
				}
			}
		}
	})
}

func TestSi1RandomLists(t *testing.T) {
	state := uint64(3)
	for size := range 50 {
		for range 30 {
			s := drawn(size+2, 1+size/3, &state)
			news := some(3, &state)
			for _, p := range news {
				checkOne(t, some(size, &state), p, s)
			}
			l, apart := apart(size, 1, &state)
			checkOne(t, l, apart[0], s)
		}
	}
}

func TestSi1RunByHand(t *testing.T) {
	a, b, c, d := in(1, 1, 5), in(1, 2, 6), in(2, 1, 7), in(2, 2, 8)
	s := siege.Site{Most: 2}
	for _, x := range []struct{ l, news, want []api.Peer }{
		{nil, nil, nil}, {nil, []api.Peer{}, nil}, {[]api.Peer{}, nil, nil}, {[]api.Peer{a}, nil, []api.Peer{a}}, {[]api.Peer{a, b, c, d}, nil, []api.Peer{a, b, c, d}},
		{nil, []api.Peer{a}, []api.Peer{a}}, {nil, []api.Peer{out(a), out(b)}, []api.Peer{a, b}}, {nil, []api.Peer{b, a}, []api.Peer{b, a}},
		// The youngest of the greatest group goes.
		{nil, []api.Peer{a, b, c}, []api.Peer{a, c}}, {nil, []api.Peer{a, b, c, d}, []api.Peer{a, d}}, {nil, []api.Peer{d, c, b, a}, []api.Peer{b, a}}, {[]api.Peer{a, b}, []api.Peer{c, d}, []api.Peer{a, d}},
		// Who is there already does not come, and who went may come once more.
		{nil, []api.Peer{a, a, b, b, a}, []api.Peer{a, b}}, {nil, []api.Peer{a, b, c, b}, []api.Peer{a, b}}, {[]api.Peer{a}, []api.Peer{out(a), ping(a, 9), b}, []api.Peer{a, b}},
		// Those that were dialled stay where they are.
		{[]api.Peer{out(a), out(b), out(c)}, []api.Peer{d}, []api.Peer{out(a), out(b), out(c), d}}, {[]api.Peer{out(a), b}, []api.Peer{a, c, d}, []api.Peer{out(a), b, d}},
		// If there are more than the most, they stay as many.
		{[]api.Peer{a, b, c, d}, []api.Peer{in(3, 1, 1)}, []api.Peer{a, b, c, in(3, 1, 1)}}, {[]api.Peer{a, b, c}, []api.Peer{in(3, 1, 1), in(3, 2, 2)}, []api.Peer{a, in(3, 1, 1), in(3, 2, 2)}},
	} {
		checkRun(t, x.l, x.news, s, x.want)
	}
}

// An arrival that is refused changes nothing for the ones behind it.
func TestSi1RunGoesOnBehindAnError(t *testing.T) {
	a, b := ping(in(1, 1, 5), 9), ping(in(1, 2, 6), 8)
	s := siege.Site{Most: 2, Quota: api.Quota{Ping: 1, Time: 1}}
	checkRun(t, []api.Peer{a, b}, []api.Peer{in(2, 1, 1), a, in(2, 2, 2), b, in(2, 3, 3)}, s, []api.Peer{a, b})
	checkRun(t, nil, []api.Peer{a, a, b, a, in(2, 1, 1), in(2, 2, 2)}, s, []api.Peer{a, b})
	checkRun(t, []api.Peer{a}, []api.Peer{a, in(2, 1, 9), in(2, 2, 7), a, ping(in(2, 3, 8), 1)}, s, []api.Peer{a, in(2, 1, 9)})
}

func TestSi1RunWhereNobodyMayCome(t *testing.T) {
	for _, most := range []int{math.MinInt, -1, 0} {
		checkRun(t, nil, few(), siege.Site{Most: most}, nil)
		checkRun(t, []api.Peer{out(in(1, 1, 1))}, few(), siege.Site{Most: most}, []api.Peer{out(in(1, 1, 1))})
		// One that is there gives its place to the first that comes, and this one to the next.
		checkRun(t, []api.Peer{in(1, 1, 1)}, []api.Peer{in(2, 1, 1), in(3, 1, 1)}, siege.Site{Most: most}, []api.Peer{in(3, 1, 1)})
	}
}

func TestSi1RunIsArriveOneByOne(t *testing.T) {
	state := uint64(4)
	for size := range 30 {
		for range 20 {
			s := drawn(size+2, 1+size/3, &state)
			l, news := some(size, &state), some(draw(&state)%30, &state)
			checkRun(t, l, news, s, ran(l, news, s))
			l, news = apart(size, draw(&state)%30, &state)
			checkRun(t, l, news, s, ran(l, news, s))
		}
	}
	eachFew(2, func(l []api.Peer) {
		eachFew(2, func(news []api.Peer) {
			for most := range 3 {
				for _, q := range small()[4:7] {
					s := siege.Site{Most: most, Quota: q, Secret: 99}
					checkRun(t, l, news, s, ran(l, news, s))
				}
			}
		})
	})
}

// What Run answers is what a second Run goes on from.
func TestSi1RunInTwoParts(t *testing.T) {
	state := uint64(5)
	for range 200 {
		s := drawn(12, 3, &state)
		l, news := apart(10, 20, &state)
		whole := siege.Run(l, news, s)
		for _, k := range []int{0, 1, 7, 19, 20} {
			checkRun(t, siege.Run(l, news[:k], s), news[k:], s, whole)
		}
	}
}

// Who writes to an answer, or behind it, changes neither the list nor a later answer.
func TestSi1AnswersAreNewMemory(t *testing.T) {
	l := []api.Peer{in(1, 1, 5), out(in(1, 2, 6)), in(2, 1, 7), in(2, 2, 8)}
	news := []api.Peer{in(3, 1, 1), in(3, 2, 2)}
	spoil := func(got []api.Peer) {
		for i := range got[:cap(got)] {
			got[:cap(got)][i] = in(7, 7, 7)
		}
	}
	for most := range 6 {
		for _, q := range []api.Quota{{}, {Time: 3}, {Ping: 1}} {
			s := siege.Site{Most: most, Quota: q}
			for _, p := range []api.Peer{in(9, 9, 9), l[0], l[1], l[3]} {
				whole := append(slices.Clone(l), in(77, 1, 1), in(77, 2, 2), in(77, 3, 3))
				before := slices.Clone(whole)
				got, _, _ := siege.Arrive(whole[:4], p, s)
				spoil(got)
				spoil(siege.Run(whole[:4], nil, s))
				spoil(siege.Run(whole[:4], []api.Peer{p}, s))
				spoil(siege.Run(nil, whole[:4], s))
				if !slices.Equal(whole, before) {
					t.Fatalf("%+v became %+v when an answer was written to", before, whole)
				}
				checkOne(t, l, p, s)
				checkRun(t, l, news, s, ran(l, news, s))
			}
		}
	}
}

// mixed is a list in which each order is another one, and in which those that were dialled (0, 3, 6 and 9) are the first of
// all by every order. With the secret 99 those that came are, by group, 4, 2, 7, 5, 1, 8 (as the tests of layer 18 have it
// from another program); by Ping 2, 5, 7, 1; by Work 4, 5, 1; by time 8, 7, 4, 5, 2, 1.
func mixed() []api.Peer {
	first := func(n uint64) api.Peer { return out(known(four(n), 1, 99, -99)) }
	return []api.Peer{
		first(0), known(four(0x0a010001), 9, 1, 9), known(four(0x0a000001), 2, 0, 8), first(1), known(four(0x00000009), 0, 8, 6),
		known(four(0x0b000001), 3, 7, 7), first(2), known(six(six2001, 1), 4, 0, 5), known(four(1<<32), -1, -1, -3), first(3),
	}
}

func TestSi2OneListByHand(t *testing.T) {
	rows := [][]int{{4, 2, 7, 5, 1, 8}, {2, 5, 7, 1}, {4, 5, 1}, {8, 7, 4, 5, 2, 1}}
	for k, p := range parts() {
		for _, n := range amounts() {
			first := rows[k][:max(0, min(n, len(rows[k])))]
			checkThose(t, mixed(), nil, only(p, n), first...)
		}
	}
	for _, c := range []struct {
		q    api.Quota
		safe []int
	}{
		{api.Quota{}, nil}, {api.Quota{Group: 1, Ping: 1, Work: 1, Time: 1}, []int{4, 2, 8}}, {api.Quota{Ping: 1, Work: 2}, []int{2, 4, 5}}, {api.Quota{Group: -1, Ping: 2, Time: 1}, []int{2, 5, 8}}, {api.Quota{Group: 2, Work: -9, Time: 2}, []int{2, 4, 7, 8}}, {api.Quota{Ping: 64, Work: 64}, []int{1, 2, 4, 5, 7}},
	} {
		checkThose(t, mixed(), nil, siege.Site{Quota: c.q, Secret: 99}, c.safe...)
	}
}

// Those that come displace by each order those that they precede, and no others.
func TestSi2ThoseThatCome(t *testing.T) {
	one, two := known(four(0x63000001), 3, 0, 6), known(six(six2001, 9), 0, 7, 5)
	for _, c := range []struct {
		p    part
		n    int
		news []api.Peer
		safe []int
	}{
		{parts()[1], 1, []api.Peer{one}, []int{2}}, {parts()[1], 2, []api.Peer{one}, []int{2, 5}}, {parts()[1], 3, []api.Peer{one}, []int{2, 5}}, {parts()[1], 4, []api.Peer{one}, []int{2, 5, 7}}, {parts()[1], 5, []api.Peer{one}, []int{2, 5, 7, 1}}, {parts()[1], 4, []api.Peer{two}, []int{2, 5, 7, 1}},
		{parts()[2], 1, []api.Peer{two}, []int{4}}, {parts()[2], 2, []api.Peer{two}, []int{4, 5}}, {parts()[2], 3, []api.Peer{two}, []int{4, 5}}, {parts()[2], 4, []api.Peer{two}, []int{4, 5, 1}}, {parts()[2], 3, []api.Peer{one}, []int{4, 5, 1}},
		{parts()[3], 2, []api.Peer{one, two}, []int{8, 7}}, {parts()[3], 3, []api.Peer{one, two}, []int{8, 7}}, {parts()[3], 4, []api.Peer{one, two}, []int{8, 7, 4}}, {parts()[3], 5, []api.Peer{one, two}, []int{8, 7, 4}}, {parts()[3], 6, []api.Peer{one, two}, []int{8, 7, 4, 5}}, {parts()[3], 7, []api.Peer{one, two}, []int{8, 7, 4, 5, 2}}, {parts()[3], 8, []api.Peer{two, one}, []int{8, 7, 4, 5, 2, 1}},
	} {
		checkThose(t, mixed(), c.news, only(c.p, c.n), c.safe...)
		// Those that come are asked as if they were there, whatever their In is.
		for i := range c.news {
			c.news[i].In = false
		}
		checkThose(t, mixed(), c.news, only(c.p, c.n), c.safe...)
	}
}

// By group there are as many ahead as come from the groups whose mixed number is greater: with 99 those of 4, 2, 7, 5, 1.
func TestSi2ThoseThatComeByGroup(t *testing.T) {
	row := []int{4, 2, 7, 5, 1, 8}
	for k, i := range row[:5] {
		mate := mixed()[i]
		mate.End.Addr.Lo++
		for n := range 9 {
			var safe []int
			for j, own := range row {
				behind := 0
				if j > k {
					behind = 1
				}
				if j+behind < n {
					safe = append(safe, own)
				}
			}
			checkThose(t, mixed(), []api.Peer{mate}, only(parts()[0], n), safe...)
			checkThose(t, mixed(), []api.Peer{out(mate)}, only(parts()[0], n), safe...)
		}
	}
}

func TestSi2NoSuchPeer(t *testing.T) {
	s := siege.Site{Most: 9, Quota: api.Quota{Group: 64, Ping: 64, Work: 64, Time: 64}}
	for _, l := range [][]api.Peer{nil, {}, {in(1, 1, 5)}, {in(1, 1, 5), in(1, 2, 5)}, mixed()} {
		for _, i := range []int{math.MinInt, math.MinInt + 1, -1 << 32, -2, -1, len(l), len(l) + 1, 1 << 32, 1<<32 + 1, math.MaxInt} {
			checkSafe(t, l, nil, i, s, false)
			checkSafe(t, l, mixed(), i, s, false)
		}
	}
}

// Those that were dialled are not safe, and displace nobody.
func TestSi2ThoseThatWereDialled(t *testing.T) {
	a := known(four(9), 5, 5, 5)
	for _, p := range parts() {
		for _, n := range []int{1, 2, topQuota, math.MaxInt} {
			checkThose(t, []api.Peer{out(a)}, nil, only(p, n))
			checkThose(t, []api.Peer{out(a), out(known(four(1), 1, 9, 1)), out(a)}, []api.Peer{a}, only(p, n))
			checkThose(t, []api.Peer{out(known(four(1), 1, 9, 1)), a, out(known(four(2), 1, 9, 1))}, nil, only(p, n), 1)
		}
	}
}

// The number of slots does not matter, nor whether the peers have any.
func TestSi2MostDoesNotMatter(t *testing.T) {
	for _, most := range amounts() {
		checkThose(t, mixed(), nil, siege.Site{Most: most, Quota: api.Quota{Ping: 2}, Secret: 99}, 2, 5)
		checkThose(t, mixed(), nil, siege.Site{Most: most, Quota: api.Quota{Group: 1}, Secret: 99}, 4)
	}
}

// Each quota is asked about the whole list, also about those that another one protects.
func TestSi2QuotasDoNotFollowOneAnother(t *testing.T) {
	l := []api.Peer{known(four(0x0a010001), 1, 9, 1), known(four(0x0a010002), 2, 8, 2), known(four(0x0a010003), 3, 7, 3)}
	checkThose(t, l, nil, siege.Site{Quota: api.Quota{Ping: 1, Work: 1, Time: 1}}, 0)
	checkThose(t, l, nil, siege.Site{Quota: api.Quota{Ping: 1, Work: 2, Time: 1}}, 0, 1)
	checkThose(t, l, l, siege.Site{Quota: api.Quota{Ping: 1, Work: 1, Time: 1}}, 0)
}

// A peer that comes several times is as many peers.
func TestSi2EachAsOftenAsItOccurs(t *testing.T) {
	l := []api.Peer{known(four(0x0a010001), 9, 1, 9), out(in(1, 1, 1))}
	fast := known(four(0x0a000001), 1, 9, 1)
	for n := range 6 {
		for times := range 6 {
			for _, p := range parts()[1:] {
				var safe []int
				if times < n {
					safe = []int{0}
				}
				checkThose(t, l, slices.Repeat([]api.Peer{fast}, times), only(p, n), safe...)
				checkThose(t, slices.Concat(l, slices.Repeat([]api.Peer{fast}, times))[:2], slices.Repeat([]api.Peer{out(fast)}, times), only(p, n), safe...)
				checkSafe(t, slices.Concat(l, slices.Repeat([]api.Peer{fast}, times)), nil, 0, only(p, n), times < n)
				checkSafe(t, slices.Concat(slices.Repeat([]api.Peer{fast}, times), l), slices.Repeat([]api.Peer{fast}, times), times, only(p, n), 2*times < n)
			}
		}
	}
}

// Equal peers do not precede one another, however many there are and wherever they stand, nor does a peer that comes with the same numbers.
func TestSi2EqualPeers(t *testing.T) {
	a := known(four(0x0a010001), 5, 4, 3)
	b := a
	b.Score = api.Score{Points: 9, At: 9}
	for _, p := range parts() {
		for _, l := range [][]api.Peer{{a}, {a, a}, {b, a}, {a, b}, {a, b, a, b, b, a}} {
			all := make([]int, len(l))
			for i := range all {
				all[i] = i
			}
			for _, news := range [][]api.Peer{nil, {a}, {out(a)}, {b, b}, {out(b), a, a, out(a), b}, slices.Repeat([]api.Peer{b}, 9)} {
				checkThose(t, l, news, only(p, 1), all...)
				checkThose(t, l, news, only(p, 0))
				// One that precedes them all displaces them all, if there is one slot.
				better := api.Peer{End: api.End{Addr: a.End.Addr, Port: 79}, Ping: 4, Work: 5, Since: 2}
				checkThose(t, l, append(slices.Clone(news), better), only(p, 1))
				checkThose(t, l, append(slices.Clone(news), better), only(p, 2), all...)
			}
		}
	}
}

// A peer that comes may have the end of one that is there, and precede it or not.
func TestSi2TheSameEndWithOtherNumbers(t *testing.T) {
	a := known(four(0x0a010001), 5, 4, 3)
	for _, c := range []struct {
		p    part
		news api.Peer
		safe bool
	}{
		{parts()[0], known(four(0x0a010001), 1, 9, 1), true}, {parts()[1], known(four(0x0a010001), 4, 0, 9), false}, {parts()[1], known(four(0x0a010001), 6, 9, 1), true}, {parts()[1], known(four(0x0a010001), 0, 9, 1), true}, {parts()[1], known(four(0x0a010001), -1, 9, 1), true},
		{parts()[2], known(four(0x0a010001), 0, 5, 9), false}, {parts()[2], known(four(0x0a010001), 1, 3, 1), true}, {parts()[3], known(four(0x0a010001), 0, 0, 2), false}, {parts()[3], known(four(0x0a010001), 1, 9, 4), true},
	} {
		checkSafe(t, []api.Peer{a}, []api.Peer{c.news}, 0, only(c.p, 1), c.safe)
		checkSafe(t, []api.Peer{c.news, a}, nil, 1, only(c.p, 1), c.safe)
		checkSafe(t, []api.Peer{a, c.news}, nil, 0, only(c.p, 1), c.safe)
		checkSafe(t, []api.Peer{a}, []api.Peer{out(c.news)}, 0, only(c.p, 1), c.safe)
	}
}

// One that differs from a peer in one number alone may precede it, be it there or coming.
func TestSi2OneOtherNumber(t *testing.T) {
	a := known(four(0x0a010001), 5, 4, 3)
	faster, useful, older, worse := a, a, a, a
	faster.Ping, useful.Work, older.Since, worse.Score.Points = 4, 5, 2, 9
	others := []api.Peer{worse, faster, useful, older}
	for k, p := range parts() {
		for j, other := range others {
			// By group the end alone counts, and it is the same one.
			safe := k == 0 || j != k
			checkSafe(t, []api.Peer{a}, []api.Peer{other}, 0, only(p, 1), safe)
			checkSafe(t, []api.Peer{a}, []api.Peer{out(other)}, 0, only(p, 1), safe)
			checkSafe(t, []api.Peer{other, a}, nil, 1, only(p, 1), safe)
			checkSafe(t, []api.Peer{a, other}, nil, 0, only(p, 1), safe)
			checkSafe(t, []api.Peer{a, other}, []api.Peer{other}, 0, only(p, 2), safe)
			checkSafe(t, []api.Peer{a, other}, []api.Peer{other}, 1, only(p, 1), true)
		}
	}
}

// By each number a peer that is there is held against one that comes.
func TestSi2EachPairOfNumbers(t *testing.T) {
	for _, n := range numbers() {
		for _, m := range numbers() {
			for _, x := range []uint64{8, 9, 10} {
				for _, p := range parts() {
					a := known(four(9), n, n, n)
					b := known(four(x), m, m, m)
					checkEach(t, []api.Peer{a}, []api.Peer{b}, only(p, 1))
					checkEach(t, []api.Peer{a, b}, []api.Peer{out(b)}, only(p, 2))
				}
			}
		}
	}
}

func TestSi2ExampleOfTheChapter(t *testing.T) {
	s := siege.Site{Most: 3, Quota: api.Quota{Ping: 1}, Secret: 5}
	l := []api.Peer{in(1, 1, 1), ping(in(1, 2, 9), 4), ping(in(2, 1, 3), 8)}
	var news []api.Peer
	for i := range 300 {
		news = append(news, ping(known(four(uint64(i)<<16), 0, i, i), 5+i%7))
	}
	checkThose(t, l, news, s, 1)
	for k := range news {
		if m := siege.Run(l, news[:k], s); !slices.Contains(m, l[1]) || inbound(m) != 3 {
			t.Fatalf("behind %d that came there are %+v", k, m)
		}
	}
	// One that is faster takes the slot, and the next one sends the slower one away.
	checkThose(t, l, append(news, ping(in(9, 9, 9), 3)), s)
}

// At the limit 63 to 65 of a hundred precede the peer that is asked about.
func TestSi2QuotasAtTheLimit(t *testing.T) {
	var l, news []api.Peer
	for i := range 110 {
		p := known(four(0x0a000000+uint64(i)), 1+i, topTick-i, i)
		p.In = i >= 10
		if i < 10 || i%2 == 0 {
			l = append(l, p)
		} else {
			news = append(news, out(p))
		}
	}
	for _, n := range []int{topQuota - 1, topQuota, topQuota + 1, 99, 100, 101} {
		for _, p := range parts() {
			for i, own := range l {
				checkSafe(t, l, news, i, only(p, n), own.In && own.Since < 10+n)
			}
		}
	}
}

func TestSi2AllShortLists(t *testing.T) {
	eachFew(2, func(l []api.Peer) {
		eachFew(2, func(news []api.Peer) {
			for _, q := range small()[2:7] {
				checkEach(t, l, news, siege.Site{Quota: q, Secret: 99})
			}
		})
	})
	eachFew(3, func(l []api.Peer) {
		for _, p := range parts() {
			for n := range 3 {
				checkEach(t, l, nil, only(p, n))
			}
			checkEach(t, l, few(), only(p, 4))
		}
	})
}

func TestSi2RandomLists(t *testing.T) {
	state := uint64(6)
	for size := range 25 {
		for range 20 {
			s := drawn(size, 1+size/2, &state)
			checkEach(t, some(size, &state), some(draw(&state)%20, &state), s)
			l, news := apart(size, draw(&state)%20, &state)
			checkEach(t, l, news, s)
		}
	}
}

// As many peers as there may be, and as many that come: the one with the 65th latency of all is not safe, and the one before it is.
func TestSi2LongLists(t *testing.T) {
	all := make([]api.Peer, 2*topLimit)
	for i := range all {
		n := i * 7919 % len(all)
		all[i] = known(six(uint64(six2001+n/4<<32), uint64(n)), 1+n, 0, n)
	}
	l, news := all[:topLimit], all[topLimit:]
	s := siege.Site{Most: topLimit, Quota: api.Quota{Ping: topQuota}, Secret: 9}
	seen := 0
	for i, p := range l {
		if topQuota-5 < p.Ping && p.Ping <= topQuota+5 {
			checkSafe(t, l, news, i, s, p.Ping <= topQuota)
			seen++
		}
	}
	if seen < 4 {
		t.Fatal(seen)
	}
}

// Many goroutines may ask about one list at once, and about another one each.
func TestSi1ManyGoroutines(t *testing.T) {
	state := uint64(7)
	l, news := apart(40, 40, &state)
	var all sync.WaitGroup
	for k := range 16 {
		s := drawn(30, 9, &state)
		own := some(30+k, &state)
		all.Go(func() {
			for _, m := range [][]api.Peer{l, own} {
				if got := siege.Run(m, news, s); !slices.Equal(got, ran(m, news, s)) {
					t.Errorf("Run of %d peers with %+v is %+v", len(m), s, got)
				}
				for i := range m {
					if siege.Safe(m, news, i, s) != within(m, news, i, s) {
						t.Errorf("Safe of %d peers with %+v is wrong for %d", len(m), s, i)
					}
				}
			}
		})
	}
	all.Wait()
}

// sieges hands out many lists of peers with different ends, some of them not valid, and of others that come.
func sieges(see func(l, news []api.Peer, s siege.Site)) {
	state := uint64(8)
	for size := range 25 {
		for range 6 {
			l, news := apart(size, draw(&state)%50, &state)
			s := drawn(size+1, 1+size/4, &state)
			see(l, news, s)
			s.Most = inbound(l)
			see(l, news, s)
		}
	}
	for _, q := range append(small(), api.Quota{Group: topQuota, Ping: topQuota, Work: topQuota, Time: topQuota}) {
		l, news := apart(100, 100, &state)
		see(l, news, siege.Site{Most: 60, Quota: q, Secret: top})
		for i := range news {
			news[i].End.Port += topLimit
		}
		see(mixed(), news, siege.Site{Most: 4, Quota: q, Secret: 99})
	}
}

// guarded are the peers of a list that are safe.
func guarded(l, news []api.Peer, s siege.Site) []api.Peer {
	var safe []api.Peer
	for i, p := range l {
		if siege.Safe(l, news, i, s) {
			safe = append(safe, p)
		}
	}
	return safe
}

// missing are those of some peers that are not in a list, just as they are.
func missing(some, l []api.Peer) []api.Peer {
	return slices.DeleteFunc(slices.Clone(some), func(p api.Peer) bool { return slices.Contains(l, p) })
}

// Who is safe is still there, just as it was, behind each of those that come.
func TestSi3WhoIsSafeStays(t *testing.T) {
	stayed, gone := 0, 0
	sieges(func(l, news []api.Peer, s siege.Site) {
		safe := guarded(l, news, s)
		m := l
		for k, p := range news {
			m, _, _ = siege.Arrive(m, p, s)
			if lost := missing(safe, m); len(lost) > 0 {
				t.Fatalf("%+v are safe and have gone of %+v with %+v, when %+v came", lost, l, s, news[:k+1])
			}
		}
		if lost := missing(safe, siege.Run(l, news, s)); len(lost) > 0 {
			t.Fatalf("%+v are safe and have gone of %+v with %+v, when %+v came", lost, l, s, news)
		}
		stayed += len(safe)
		gone += len(missing(l, m))
	})
	// The lists are such that both happens often.
	if stayed < 300 || gone < 300 {
		t.Fatal(stayed, gone)
	}
}

// Those that come may come in any order, and more than once, those that were there among them.
func TestSi3WhoIsSafeStaysInAnyOrder(t *testing.T) {
	state := uint64(9)
	sieges(func(l, news []api.Peer, s siege.Site) {
		twice := slices.Concat(news, l, news)
		for i := range twice {
			j := i + draw(&state)%(len(twice)-i)
			twice[i], twice[j] = twice[j], twice[i]
		}
		if lost := missing(guarded(l, news, s), siege.Run(l, twice, s)); len(lost) > 0 {
			t.Fatalf("%+v are safe and have gone of %+v with %+v, when %+v came", lost, l, s, twice)
		}
	})
}

// Who is safe from some is safe from fewer of them; greater quotas make no fewer safe.
func TestSi3FewerThatComeAndGreaterQuotas(t *testing.T) {
	sieges(func(l, news []api.Peer, s siege.Site) {
		wider := s
		for _, p := range parts() {
			*p.of(&wider.Quota)++
		}
		for i := range l {
			if !siege.Safe(l, news, i, s) {
				continue
			}
			if !siege.Safe(l, news[len(news)/2:], i, s) || !siege.Safe(l, nil, i, s) || !siege.Safe(l, news, i, wider) {
				t.Fatalf("%+v is safe of %+v with %+v when %+v come, and not from fewer or with more slots", l[i], l, s, news)
			}
		}
	})
}

// There are never more than the most, or than there were.
func TestSi3NeverMoreThanTheMost(t *testing.T) {
	check := func(l, news []api.Peer, s siege.Site) {
		m := l
		for k, p := range news {
			m, _, _ = siege.Arrive(m, p, s)
			if n := inbound(m); n > max(s.Most, inbound(l)) || n < inbound(l) {
				t.Fatalf("of %+v with %+v there are %d when %+v came", l, s, n, news[:k+1])
			}
		}
		if n := inbound(siege.Run(l, news, s)); n != inbound(m) {
			t.Fatalf("%d, and %d one by one", n, inbound(m))
		}
	}
	sieges(check)
	state := uint64(10)
	for size := range 20 {
		l, news := apart(size, 30, &state)
		for _, most := range []int{math.MinInt, -1, 0, 1, size / 2, inbound(l) - 1, inbound(l), inbound(l) + 1, size + 40, math.MaxInt} {
			for _, q := range small() {
				check(l, news, siege.Site{Most: most, Quota: q, Secret: 99})
			}
		}
	}
}

// Those that were dialled stay, and as long as there is room everybody does.
func TestSi3WhoNeverGoes(t *testing.T) {
	sieges(func(l, news []api.Peer, s siege.Site) {
		m := siege.Run(l, news, s)
		for _, p := range l {
			if !p.In && !slices.Contains(m, p) {
				t.Fatalf("%+v was dialled and has gone of %+v with %+v", p, l, s)
			}
		}
		s.Most = inbound(l) + len(news)
		want := slices.Clone(l)
		for _, p := range news {
			want = append(want, came(p))
		}
		checkRun(t, l, news, s, want)
	})
}
