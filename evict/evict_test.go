package evict_test

import (
	"math"
	"slices"
	"sync"
	"testing"

	"doorman/api"
	"doorman/crowd"
	"doorman/evict"
	"doorman/rank"
	"doorman/shield"
)

const (
	topTick  = 1 << 40
	topPing  = 1 << 20
	topPort  = 65535
	topLimit = 65535
	topQuota = 64
	top      = math.MaxUint64
	six2001  = 0x20010db8 << 32
)

func four(n uint64) api.Addr { return api.Addr{Lo: n} }

func six(hi, lo uint64) api.Addr { return api.Addr{V6: true, Hi: hi, Lo: lo} }

// known is a peer that came from an address, with its numbers.
func known(a api.Addr, ping, work, since int) api.Peer {
	return api.Peer{End: api.End{Addr: a, Port: 80}, In: true, Ping: ping, Work: work, Since: since}
}

// in is a peer that came from the n-th address of a group, 10.g.0.0/16, and of which nothing else is known.
func in(g, n uint64, since int) api.Peer { return known(four(10<<24+g<<16+n), 0, 0, since) }

// out is the same peer, if it was dialled.
func out(p api.Peer) api.Peer {
	p.In = false
	return p
}

// ping is the same peer with a latency.
func ping(p api.Peer, ms int) api.Peer {
	p.Ping = ms
	return p
}

// amounts are quotas of both signs: ordinary ones, the limits and those beside them, and extreme ones.
func amounts() []int {
	return []int{math.MinInt, math.MinInt + 1, -1 << 32, 1 - 1<<32, -topQuota - 1, -topQuota, -2, -1, 0, 1, 2, 3, 5, 10, topQuota - 1, topQuota, topQuota + 1, 255, 256, 257, 1<<31 - 1, 1 << 31, 1 << 32, 1<<32 + 1, math.MaxInt - 1, math.MaxInt}
}

// numbers are those of peers.
func numbers() []int {
	return []int{math.MinInt, -1, 0, 1, 2, topPing, topPing + 1, topTick, topTick + 1, math.MaxInt}
}

// wrong are addresses that are not valid.
func wrong() []api.Addr {
	return []api.Addr{four(1 << 32), four(1<<32 + 10<<24), four(top), {Hi: 1}, {Hi: six2001, Lo: 1}, {Hi: top, Lo: top}, six(0, 0xffff00000000), six(0, 0xffff0a000001)}
}

// part is one of the four quotas, of which each has its order.
type part struct {
	by int
	of func(q *api.Quota) *int
}

// parts are the four in the order in which they are applied.
func parts() []part {
	return []part{
		{rank.ByGroup, func(q *api.Quota) *int { return &q.Group }},
		{rank.ByPing, func(q *api.Quota) *int { return &q.Ping }},
		{rank.ByWork, func(q *api.Quota) *int { return &q.Work }},
		{rank.ByTime, func(q *api.Quota) *int { return &q.Time }},
	}
}

func with(q api.Quota, p part, n int) api.Quota {
	*p.of(&q) = n
	return q
}

// foremost is the place of the first one of those that came, count and are not kept; -1 if there is none.
func foremost(l []api.Peer, kept []bool, by int, secret uint64) int {
	best := -1
	for i, p := range l {
		if p.In && !kept[i] && rank.Counts(p, by) && (best < 0 || rank.Ahead(p, l[best], by, secret)) {
			best = i
		}
	}
	return best
}

// remaining says once more who may be chosen: quota by quota and peer by peer, in the list as it is.
func remaining(l []api.Peer, q api.Quota, secret uint64) []api.Peer {
	kept := make([]bool, len(l))
	for _, p := range parts() {
		for n := *p.of(&q); n > 0; n-- {
			i := foremost(l, kept, p.by, secret)
			if i < 0 {
				break
			}
			kept[i] = true
		}
	}
	var rest []api.Peer
	for i, p := range l {
		if p.In && !kept[i] {
			rest = append(rest, p)
		}
	}
	return rest
}

func valid(a api.Addr) bool {
	if a.V6 {
		return a.Hi != 0 || a.Lo>>32 != 0xffff
	}
	return a.Hi == 0 && a.Lo>>32 == 0
}

// together tells whether two addresses are in one group, or neither is valid.
func together(a, b api.Addr) bool {
	switch {
	case !valid(a) || !valid(b):
		return valid(a) == valid(b)
	case a.V6 != b.V6:
		return false
	case a.V6:
		return a.Hi>>32 == b.Hi>>32
	}
	return a.Lo>>16 == b.Lo>>16
}

// later tells field by field whether an end comes after another one.
func later(a, b api.End) bool {
	switch {
	case a.Addr.V6 != b.Addr.V6:
		return a.Addr.V6
	case a.Addr.Hi != b.Addr.Hi:
		return a.Addr.Hi > b.Addr.Hi
	case a.Addr.Lo != b.Addr.Lo:
		return a.Addr.Lo > b.Addr.Lo
	}
	return a.Port > b.Port
}

func younger(a, b api.Peer) bool {
	return a.Since > b.Since || a.Since == b.Since && later(a.End, b.End)
}

func mates(l []api.Peer, p api.Peer) int {
	n := 0
	for _, other := range l {
		if together(other.End.Addr, p.End.Addr) {
			n++
		}
	}
	return n
}

// goer says once more who of some peers goes.
func goer(l []api.Peer) (api.End, bool) {
	if len(l) == 0 {
		return api.End{}, false
	}
	best := l[0]
	for _, p := range l {
		n, most := mates(l, p), mates(l, best)
		if n > most || n == most && younger(p, best) {
			best = p
		}
	}
	return best.End, true
}

// lined hands in a list with something behind it, and asks that nothing is written to it.
func lined(t *testing.T, l []api.Peer, ask func([]api.Peer)) {
	t.Helper()
	own := append(slices.Clone(l), in(77, 1, topTick), in(77, 2, topTick), in(77, 3, -9))
	before := slices.Clone(own)
	ask(own[:len(l)])
	if !slices.Equal(own, before) {
		t.Fatalf("%+v was changed to %+v", before, own)
	}
}

func checkCandidates(t *testing.T, l []api.Peer, q api.Quota, secret uint64, want []api.Peer) {
	t.Helper()
	lined(t, l, func(l []api.Peer) {
		if got := evict.Candidates(l, q, secret); !slices.Equal(got, want) {
			t.Fatalf("Candidates(%+v, %+v, %d) is %+v, not %+v", l, q, secret, got, want)
		}
	})
}

func checkChoose(t *testing.T, l []api.Peer, q api.Quota, secret uint64, want api.End, ok bool) {
	t.Helper()
	lined(t, l, func(l []api.Peer) {
		if got, is := evict.Choose(l, q, secret); got != want || is != ok {
			t.Fatalf("Choose(%+v, %+v, %d) is %+v, %v, not %+v, %v", l, q, secret, got, is, want, ok)
		}
	})
}

// checkThose asks for the candidates by their indexes, and for the one that goes; -1 if there is none.
func checkThose(t *testing.T, l []api.Peer, q api.Quota, secret uint64, places []int, goes int) {
	t.Helper()
	var rest []api.Peer
	for _, i := range places {
		rest = append(rest, l[i])
	}
	checkCandidates(t, l, q, secret, rest)
	if goes < 0 {
		checkChoose(t, l, q, secret, api.End{}, false)
		return
	}
	checkChoose(t, l, q, secret, l[goes].End, true)
}

// checkList asks both, and says once more what the answers are.
func checkList(t *testing.T, l []api.Peer, q api.Quota, secret uint64) {
	t.Helper()
	rest := remaining(l, q, secret)
	checkCandidates(t, l, q, secret, rest)
	e, ok := goer(rest)
	checkChoose(t, l, q, secret, e, ok)
}

// draw is a plain sequence of numbers that is the same each time.
func draw(state *uint64) int {
	*state = *state*6364136223846793005 + 1442695040888963407
	return int(*state >> 8)
}

// some is a list of any length, with many equal numbers, groups and ends, and some addresses that are not valid.
func some(n int, state *uint64) []api.Peer {
	l := make([]api.Peer, n)
	for i := range l {
		a := four(uint64(10<<24 + draw(state)%4<<16 + draw(state)%5))
		switch draw(state) % 8 {
		case 0, 1, 2:
			a = six(uint64(six2001+draw(state)%4<<32+draw(state)%3), uint64(draw(state)%5))
		case 3:
			a = wrong()[draw(state)%len(wrong())]
		}
		l[i] = known(a, draw(state)%9-1, draw(state)%9-1, draw(state)%9-1)
		l[i].End.Port += draw(state) % 3
		l[i].In, l[i].Score = draw(state)%3 > 0, api.Score{Points: draw(state) % 9, At: draw(state) % 9}
	}
	return l
}

// apart is a list of peers with different ends.
func apart(n int, state *uint64) []api.Peer {
	l := some(n, state)
	for i := range l {
		l[i].End.Port = 1 + i
	}
	return shuffled(l, state)
}

func shuffled(l []api.Peer, state *uint64) []api.Peer {
	l = slices.Clone(l)
	for i := range l {
		j := i + draw(state)%(len(l)-i)
		l[i], l[j] = l[j], l[i]
	}
	return l
}

// drawn are quotas from -1 to a most.
func drawn(most int, state *uint64) api.Quota {
	amount := func() int { return draw(state)%(most+2) - 1 }
	return api.Quota{Group: amount(), Ping: amount(), Work: amount(), Time: amount()}
}

// mixed is a list in which each order is another one, and in which those that were dialled (0, 3, 6 and 9) are the first of
// all by every order. With the secret 99 those that came are, by group, 4, 2, 7, 5, 1, 8 (as the tests of layer 18 have it
// from another program); by Ping 2, 5, 7, 1; by Work 4, 5, 1; by time 8, 7, 4, 5, 2, 1.
func mixed() []api.Peer {
	first := func(n uint64) api.Peer { return out(known(four(n), 1, 99, -99)) }
	return []api.Peer{
		first(0), known(four(0x0a010001), 9, 1, 9), known(four(0x0a000001), 2, 0, 8), first(1), known(four(0x00000009), 0, 8, 6),
		known(four(0x0b000001), 3, 7, 7), first(2), known(six(six2001, 1), 4, 0, 5), known(four(1<<32), -1, -1, -3), first(3),
	}
}

func TestEv1CandidatesByHand(t *testing.T) {
	for _, c := range []struct {
		q    api.Quota
		want []int
		goes int
	}{
		{api.Quota{}, []int{1, 2, 4, 5, 7, 8}, 1},
		{api.Quota{Group: 1}, []int{1, 2, 5, 7, 8}, 1}, {api.Quota{Group: 2}, []int{1, 5, 7, 8}, 1}, {api.Quota{Group: 3}, []int{1, 5, 8}, 1}, {api.Quota{Group: 4}, []int{1, 8}, 1}, {api.Quota{Group: 5}, []int{8}, 8}, {api.Quota{Group: 6}, nil, -1}, {api.Quota{Group: 7}, nil, -1}, {api.Quota{Group: 10}, nil, -1},
		{api.Quota{Ping: 1}, []int{1, 4, 5, 7, 8}, 1}, {api.Quota{Ping: 2}, []int{1, 4, 7, 8}, 1}, {api.Quota{Ping: 3}, []int{1, 4, 8}, 1}, {api.Quota{Ping: 4}, []int{4, 8}, 4}, {api.Quota{Ping: 5}, []int{4, 8}, 4}, {api.Quota{Ping: 64}, []int{4, 8}, 4},
		{api.Quota{Work: 1}, []int{1, 2, 5, 7, 8}, 1}, {api.Quota{Work: 2}, []int{1, 2, 7, 8}, 1}, {api.Quota{Work: 3}, []int{2, 7, 8}, 2}, {api.Quota{Work: 4}, []int{2, 7, 8}, 2}, {api.Quota{Work: 64}, []int{2, 7, 8}, 2},
		{api.Quota{Time: 1}, []int{1, 2, 4, 5, 7}, 1}, {api.Quota{Time: 2}, []int{1, 2, 4, 5}, 1}, {api.Quota{Time: 3}, []int{1, 2, 5}, 1}, {api.Quota{Time: 4}, []int{1, 2}, 1}, {api.Quota{Time: 5}, []int{1}, 1}, {api.Quota{Time: 6}, nil, -1}, {api.Quota{Time: 64}, nil, -1},
		{api.Quota{Group: 1, Ping: 1, Work: 1, Time: 1}, []int{1, 7}, 1}, {api.Quota{Ping: 9, Work: 9}, []int{8}, 8}, {api.Quota{Ping: 4, Time: 1}, []int{4}, 4}, {api.Quota{Work: 3, Ping: 1}, []int{7, 8}, 7}, {api.Quota{Ping: 4, Work: 1}, []int{8}, 8}, {api.Quota{Group: 64, Ping: 64, Work: 64, Time: 64}, nil, -1},
		{api.Quota{Ping: -1, Work: 3}, []int{2, 7, 8}, 2}, {api.Quota{Group: -1, Ping: -1, Work: -1, Time: -1}, []int{1, 2, 4, 5, 7, 8}, 1}, {api.Quota{Group: -2, Time: 2}, []int{1, 2, 4, 5}, 1},
	} {
		checkThose(t, mixed(), c.q, 99, c.want, c.goes)
	}
}

func TestEv1ChooseByHand(t *testing.T) {
	no := api.Quota{}
	for _, c := range []struct {
		l    []api.Peer
		q    api.Quota
		want int
	}{
		// The greatest group, and the youngest one of it; at one tick the last end.
		{[]api.Peer{in(1, 1, 5)}, no, 0}, {[]api.Peer{in(1, 1, 5), in(1, 2, 6)}, no, 1}, {[]api.Peer{in(1, 1, 6), in(1, 2, 5)}, no, 0}, {[]api.Peer{in(1, 2, 5), in(1, 1, 5)}, no, 0}, {[]api.Peer{in(1, 1, 5), in(1, 2, 5), in(2, 1, 5)}, no, 1},
		{[]api.Peer{in(2, 1, 90), in(1, 1, 0), in(1, 2, 1), in(2, 2, 80), in(1, 3, -1)}, no, 2}, {[]api.Peer{in(1, 1, 3), in(2, 1, 9), in(2, 2, 1), in(1, 2, 8)}, no, 1},
		{[]api.Peer{known(six(six2001, 1), 0, 0, 5), known(six(six2001+9, 1), 0, 0, 6), in(1, 1, 7)}, no, 1}, {[]api.Peer{in(1, 1, 50), known(four(1<<32), 0, 0, 1), known(api.Addr{Hi: 1}, 0, 0, 2)}, no, 2},
		// Those that were dialled are none of a crowd, and do not go.
		{[]api.Peer{in(1, 1, 5), out(in(1, 2, 90))}, no, 0}, {[]api.Peer{in(1, 1, 9), out(in(1, 2, 5)), out(in(1, 3, 5)), in(2, 1, 1), in(2, 2, 2)}, no, 4}, {[]api.Peer{out(in(1, 1, 5)), in(2, 1, 1), out(in(1, 2, 6))}, no, 1},
		// Nor are those that are protected: the group with most peers is that with most candidates.
		{[]api.Peer{in(1, 1, 1), in(1, 2, 2), in(1, 3, 9), in(2, 1, 7), in(2, 2, 8)}, no, 2}, {[]api.Peer{in(1, 1, 1), in(1, 2, 2), in(1, 3, 9), in(2, 1, 7), in(2, 2, 8)}, api.Quota{Time: 2}, 4}, {[]api.Peer{in(1, 1, 1), in(1, 2, 2), in(1, 3, 9), in(2, 1, 7), in(2, 2, 8)}, api.Quota{Time: 1}, 2},
		{[]api.Peer{ping(in(1, 1, 1), 3), ping(in(1, 2, 2), 4), in(1, 3, 3), in(2, 1, 4), ping(in(2, 2, 5), 9)}, api.Quota{Ping: 2}, 4}, {[]api.Peer{ping(in(1, 1, 1), 3), ping(in(1, 2, 2), 4), in(1, 3, 3), in(2, 1, 4), ping(in(2, 2, 5), 9)}, api.Quota{Ping: 3}, 3},
		// If the youngest one is protected, the next one goes.
		{[]api.Peer{in(1, 1, 5), ping(in(1, 2, 9), 1), in(1, 3, 7)}, api.Quota{Ping: 1}, 2}, {[]api.Peer{in(1, 1, 5), in(1, 2, 9), ping(in(1, 3, 7), 1)}, api.Quota{Ping: 1}, 1}, {[]api.Peer{in(1, 1, 5), ping(in(1, 2, 9), 2), ping(in(1, 3, 7), 1)}, api.Quota{Ping: 2}, 0}, {[]api.Peer{in(1, 1, 5), ping(in(1, 2, 9), 2), ping(in(1, 3, 7), 1)}, api.Quota{Ping: 2, Time: 1}, -1},
		// A quota of those that were dialled is given to nobody, and takes nothing.
		{[]api.Peer{ping(in(1, 1, 5), 8), out(ping(in(1, 2, 9), 1)), ping(in(1, 3, 7), 6)}, api.Quota{Ping: 1}, 0}, {[]api.Peer{out(in(1, 1, 1)), in(1, 2, 2), out(in(1, 3, 3)), in(1, 4, 4)}, api.Quota{Time: 2}, -1}, {[]api.Peer{out(in(1, 1, 1)), in(1, 2, 2), out(in(1, 3, 3)), in(1, 4, 4)}, api.Quota{Time: 1}, 3},
	} {
		if c.want < 0 {
			checkChoose(t, c.l, c.q, 9, api.End{}, false)
		} else {
			checkChoose(t, c.l, c.q, 9, c.l[c.want].End, true)
		}
		checkList(t, c.l, c.q, 9)
	}
}

func TestEv1ExampleOfTheChapter(t *testing.T) {
	l := []api.Peer{in(1, 1, 5), in(2, 1, 20), in(1, 2, 9), out(in(1, 3, 30))}
	checkThose(t, l, api.Quota{}, 9, []int{0, 1, 2}, 2)
	checkThose(t, []api.Peer{l[3], l[2], l[1], l[0]}, api.Quota{}, 9, []int{1, 2, 3}, 1)
}

func TestEv1OfNobody(t *testing.T) {
	for _, l := range [][]api.Peer{nil, {}, {{}}, {out(in(1, 1, 5))}, {out(in(1, 1, 5)), out(in(1, 1, 5)), out(in(2, 1, 9)), out(known(six(six2001, 1), 1, 1, 1))}} {
		checkThose(t, l, api.Quota{}, 0, nil, -1)
		for _, p := range parts() {
			for _, n := range amounts() {
				checkThose(t, l, with(api.Quota{}, p, n), 99, nil, -1)
			}
		}
	}
}

// One peer alone goes, whoever it is, unless it is within a quota of an order in which it counts.
func TestEv1OfOne(t *testing.T) {
	for _, a := range append(wrong(), four(0), four(0x0a000001), four(0xffffffff), six(0, 0), six(six2001, 1), six(top, top)) {
		for _, port := range []int{math.MinInt, -1, 0, 1, 80, topPort, topPort + 1, math.MaxInt} {
			for _, n := range numbers() {
				p := known(a, n, n, n)
				p.End.Port = port
				for _, q := range []api.Quota{{}, {Group: 1}, {Ping: 1}, {Work: 1}, {Time: 1}, {Group: -1, Ping: 0, Work: -9}} {
					kept := q.Group > 0 || q.Time > 0 || (q.Ping > 0 || q.Work > 0) && n > 0
					if kept {
						checkThose(t, []api.Peer{p}, q, 7, nil, -1)
					} else {
						checkThose(t, []api.Peer{p}, q, 7, []int{0}, 0)
					}
				}
			}
		}
	}
}

// A zero end beside true is that of a peer, and beside false it is none.
func TestEv1ZeroEndThatGoes(t *testing.T) {
	l := []api.Peer{{In: true}, {}}
	checkThose(t, l, api.Quota{}, 9, []int{0}, 0)
	checkThose(t, l, api.Quota{Ping: 9, Work: 9}, 9, []int{0}, 0)
	checkThose(t, l, api.Quota{Time: 1}, 9, nil, -1)
	checkThose(t, l, api.Quota{Group: 1}, 9, nil, -1)
}

// A quota below 1 protects nobody, and takes nothing from the others.
func TestEv1QuotasBelowOne(t *testing.T) {
	for _, n := range amounts() {
		if n >= 1 {
			break
		}
		checkThose(t, mixed(), api.Quota{Group: n, Ping: n, Work: n, Time: n}, 99, []int{1, 2, 4, 5, 7, 8}, 1)
		checkThose(t, mixed(), api.Quota{Group: 1, Ping: n, Work: n, Time: n}, 99, []int{1, 2, 5, 7, 8}, 1)
		checkThose(t, mixed(), api.Quota{Group: n, Ping: 4, Work: n, Time: n}, 99, []int{4, 8}, 4)
		checkThose(t, mixed(), api.Quota{Group: n, Ping: n, Work: 3, Time: n}, 99, []int{2, 7, 8}, 2)
		checkThose(t, mixed(), api.Quota{Group: n, Ping: n, Work: n, Time: 1}, 99, []int{1, 2, 4, 5, 7}, 1)
	}
}

func TestEv1EachAmount(t *testing.T) {
	state := uint64(1)
	for _, l := range [][]api.Peer{mixed(), some(15, &state), apart(100, &state)} {
		for _, p := range parts() {
			for _, n := range amounts() {
				checkList(t, l, with(api.Quota{}, p, n), 99)
				checkList(t, l, with(api.Quota{Group: 2, Ping: 2, Work: 2, Time: 2}, p, n), 99)
			}
		}
	}
}

func TestEv1EachPairOfAmounts(t *testing.T) {
	state := uint64(2)
	for _, l := range [][]api.Peer{mixed(), some(12, &state)} {
		for k, p := range parts() {
			for _, other := range parts()[k+1:] {
				for _, n := range amounts() {
					for _, m := range amounts() {
						checkList(t, l, with(with(api.Quota{}, p, n), other, m), 99)
					}
				}
			}
		}
	}
}

// At the limit the list has more peers than the quota protects, and the first of all are such as were dialled: 63 to 65 of a hundred behind ten.
func TestEv1QuotasAtTheLimit(t *testing.T) {
	var l []api.Peer
	for i := range 110 {
		p := known(four(0x0a000000+uint64(i)), 1+i, topTick-i, i)
		p.In = i >= 10
		l = append(l, p)
	}
	for _, n := range []int{topQuota - 1, topQuota, topQuota + 1, 99} {
		for _, p := range parts() {
			checkCandidates(t, l, with(api.Quota{}, p, n), 7, l[10+n:])
			checkChoose(t, l, with(api.Quota{}, p, n), 7, l[109].End, true)
		}
	}
	for _, q := range []api.Quota{{Group: 100}, {Ping: 100}, {Work: 101}, {Time: math.MaxInt}, {Group: topQuota, Ping: 36}, {Ping: topQuota, Time: 36}, {Group: topQuota, Ping: topQuota, Work: topQuota, Time: topQuota}} {
		checkThose(t, l, q, 7, nil, -1)
	}
	checkThose(t, l, api.Quota{Group: topQuota, Time: 35}, 7, []int{109}, 109)
	checkThose(t, l, api.Quota{Ping: topQuota, Work: 34}, 7, []int{108, 109}, 109)
}

// The orders by group were worked out by another program, number by number (see the tests of layer 18).
func TestEv1ChooseByGroupAndSecret(t *testing.T) {
	l := []api.Peer{known(four(0x0a000001), 0, 0, 0), known(four(0x0a010001), 0, 0, 0), known(four(0x0b000001), 0, 0, 0), known(four(0), 0, 0, 0), known(six(six2001, 1), 0, 0, 0), known(four(1<<32), 0, 0, 0)}
	for _, c := range []struct {
		secret uint64
		row    []int
	}{
		{0, []int{0, 4, 3, 2, 1, 5}}, {1, []int{3, 4, 2, 5, 1, 0}}, {99, []int{3, 0, 4, 2, 1, 5}}, {1<<63 - 1, []int{3, 4, 1, 2, 5, 0}}, {top, []int{1, 0, 3, 2, 5, 4}},
	} {
		for n := range len(l) + 1 {
			rest := slices.Clone(c.row[n:])
			slices.Sort(rest)
			goes := -1
			for _, i := range rest {
				// All came at one tick and are alone in their groups: the last end goes.
				if goes < 0 || later(l[i].End, l[goes].End) {
					goes = i
				}
			}
			checkThose(t, l, api.Quota{Group: n}, c.secret, rest, goes)
		}
	}
}

// Only the quota by group asks for the secret.
func TestEv1SecretIsForGroupsOnly(t *testing.T) {
	for _, secret := range []uint64{0, 1, 99, 1<<63 - 1, 1 << 63, top} {
		checkThose(t, mixed(), api.Quota{Ping: 3, Time: 1}, secret, []int{1, 4}, 1)
		checkThose(t, mixed(), api.Quota{Ping: 4, Work: 1}, secret, []int{8}, 8)
		for _, q := range []api.Quota{{Group: 1}, {Group: 3, Ping: 1}, {Group: 2, Ping: 1, Work: 1, Time: 1}} {
			checkList(t, mixed(), q, secret)
		}
	}
}

// A candidate is the whole peer as it stands in the list, also where its numbers are beyond their limits.
func TestEv1CandidatesAreWholePeers(t *testing.T) {
	for _, n := range numbers() {
		for _, m := range numbers() {
			a := api.Peer{End: api.End{Addr: four(1), Port: m}, In: true, Since: n, Score: api.Score{Points: m, At: n}, Ping: m, Work: n}
			b := api.Peer{End: api.End{Addr: six(top, 1), Port: n}, In: true, Since: m, Score: api.Score{Points: n, At: m}, Ping: n, Work: m}
			checkCandidates(t, []api.Peer{b, out(a), a, out(b)}, api.Quota{}, 9, []api.Peer{b, a})
			for _, q := range []api.Quota{{Group: 1}, {Ping: 1}, {Work: 1}, {Time: 1}} {
				checkList(t, []api.Peer{b, out(a), a, out(b)}, q, 9)
			}
		}
	}
}

func TestEv1ScoresDoNotMatter(t *testing.T) {
	for _, q := range []api.Quota{{}, {Group: 2}, {Ping: 2}, {Work: 2}, {Time: 2}, {Group: 1, Ping: 1, Work: 1, Time: 1}} {
		want, ok := evict.Choose(mixed(), q, 99)
		for i := range mixed() {
			for _, n := range numbers() {
				l := mixed()
				l[i].Score = api.Score{Points: n, At: -n}
				checkChoose(t, l, q, 99, want, ok)
			}
		}
	}
}

// few are peers some of which are equal, share an end, do not count, are not valid, or were dialled.
func few() []api.Peer {
	p := known(four(0x0a010001), 5, 4, 3)
	return []api.Peer{{}, {In: true}, p, out(p), known(four(0x0a010001), 4, 4, 5), known(four(0x0a010002), 0, 5, 3), known(four(0x0a020001), 3, 0, 9), known(six(six2001, 1), 3, 0, 4), known(four(1<<32), -1, -1, -1), out(known(four(0x0a020002), 1, 9, 1))}
}

// eachFew hands out all lists of at most so many of the few.
func eachFew(most int, see func([]api.Peer)) {
	var more func(l []api.Peer)
	more = func(l []api.Peer) {
		see(l)
		if len(l) == most {
			return
		}
		for _, p := range few() {
			more(append(slices.Clone(l), p))
		}
	}
	more(nil)
}

// eachQuota hands out all quotas from 0 to a most.
func eachQuota(most int, see func(api.Quota)) {
	for group := range most + 1 {
		for ping := range most + 1 {
			for work := range most + 1 {
				for time := range most + 1 {
					see(api.Quota{Group: group, Ping: ping, Work: work, Time: time})
				}
			}
		}
	}
}

func TestEv1AllShortLists(t *testing.T) {
	eachFew(3, func(l []api.Peer) {
		eachQuota(2, func(q api.Quota) { checkList(t, l, q, 99) })
	})
	eachFew(4, func(l []api.Peer) {
		for _, q := range []api.Quota{{}, {Group: 1}, {Ping: 1}, {Work: 1}, {Time: 1}} {
			checkList(t, l, q, 99)
		}
	})
}

func TestEv1AllSmallQuotas(t *testing.T) {
	state := uint64(3)
	for _, l := range [][]api.Peer{mixed(), few(), some(9, &state), apart(9, &state)} {
		eachQuota(4, func(q api.Quota) { checkList(t, l, q, 99) })
	}
}

// Of equal peers the first ones are protected, one for each slot; the others stay candidates, and their end is chosen.
func TestEv1EqualPeers(t *testing.T) {
	for _, size := range []int{1, 2, 3, 13, 50} {
		l := slices.Repeat([]api.Peer{known(four(0x0a000001), 3, 4, 5)}, size)
		for i := range l {
			l[i].Score = api.Score{Points: i, At: i % 7}
		}
		eachQuota(2, func(q api.Quota) {
			n := min(size, q.Group+q.Ping+q.Work+q.Time)
			checkCandidates(t, l, q, 7, l[n:])
			if n < size {
				checkChoose(t, l, q, 7, l[0].End, true)
			} else {
				checkChoose(t, l, q, 7, api.End{}, false)
			}
		})
	}
}

// Who writes to an answer changes neither the list nor a later answer.
func TestEv1AnswersAreNewMemory(t *testing.T) {
	for _, l := range [][]api.Peer{mixed(), {in(1, 1, 5), in(2, 1, 20), in(1, 2, 9)}} {
		for _, q := range []api.Quota{{}, {Ping: 1}, {Time: 1}} {
			before, want := slices.Clone(l), remaining(l, q, 99)
			got := evict.Candidates(l, q, 99)
			for i := range got {
				got[i] = in(7, 7, 7)
			}
			_ = append(got, in(8, 8, 8))
			if !slices.Equal(l, before) {
				t.Fatalf("%+v became %+v when an answer was written to", before, l)
			}
			checkCandidates(t, l, q, 99, want)
		}
	}
}

func TestEv1RandomLists(t *testing.T) {
	state := uint64(4)
	for size := range 60 {
		for _, l := range [][]api.Peer{some(size, &state), apart(size, &state)} {
			for range 6 {
				checkList(t, l, drawn(1+size/4, &state), uint64(draw(&state)))
			}
		}
	}
}

// As many peers as there may be slots of both ways: those with the least latency and the longest stay are protected.
func TestEv1LongLists(t *testing.T) {
	l := make([]api.Peer, 2*topLimit)
	for i := range l {
		n := i * 7919 % len(l)
		l[i] = known(six(uint64(six2001+n/4<<32), uint64(n)), 1+n, 0, n)
		l[i].In = n%2 == 0
	}
	q := api.Quota{Ping: topQuota, Time: topQuota}
	var rest []api.Peer
	for _, p := range l {
		if p.In && p.Since >= 4*topQuota {
			rest = append(rest, p)
		}
	}
	if len(rest) != topLimit-2*topQuota {
		t.Fatal(len(rest))
	}
	checkCandidates(t, l, q, 99, rest)
	// Of the last group, which is that of 131068 and 131069, one came: all before it have two that came.
	want := slices.IndexFunc(l, func(p api.Peer) bool { return p.Since == 131066 })
	checkChoose(t, l, q, 99, l[want].End, true)
}

// Many goroutines may ask about one list at once, and about another one each.
func TestEv1ManyGoroutines(t *testing.T) {
	state := uint64(6)
	l := some(200, &state)
	var all sync.WaitGroup
	for k := range 16 {
		own, q := some(40+k, &state), drawn(15, &state)
		all.Go(func() {
			for _, m := range [][]api.Peer{l, own} {
				rest := remaining(m, q, 7)
				if got := evict.Candidates(m, q, 7); !slices.Equal(got, rest) {
					t.Errorf("Candidates of %d peers with %+v is %+v", len(m), q, got)
				}
				want, ok := goer(rest)
				if got, is := evict.Choose(m, q, 7); got != want || is != ok {
					t.Errorf("Choose of %d peers with %+v is %+v, %v", len(m), q, got, is)
				}
			}
		})
	}
	all.Wait()
}

// different are lists of peers with different ends, some of them not valid, many of their numbers equal.
func different() [][]api.Peer {
	state := uint64(7)
	odd := mixed()
	for i, a := range []api.Addr{four(1<<32 + 1), {Hi: 1, Lo: 0x0a000001}, six(0, 0xffff0a000001), six(top, top), four(0xffffffff)} {
		odd = append(odd, known(a, 3, 7, 7))
		odd[len(odd)-1].End.Port = []int{0, -1, topPort, topPort + 1, math.MaxInt}[i]
	}
	lists := [][]api.Peer{nil, mixed(), odd, {{}}, {{In: true}}}
	for size := range 30 {
		lists = append(lists, apart(size, &state))
	}
	return lists
}

// quotas are ordinary ones, such as are below 1, and the limits.
func quotas() []api.Quota {
	state := uint64(8)
	l := []api.Quota{{}, {Group: 1}, {Ping: 1}, {Work: 1}, {Time: 1}, {Group: 1, Ping: 1, Work: 1, Time: 1}, {Group: topQuota, Ping: topQuota, Work: topQuota, Time: topQuota}}
	for range 40 {
		l = append(l, drawn(6, &state))
	}
	return l
}

// came are the peers of a list that were not dialled.
func came(l []api.Peer) []api.Peer {
	return slices.DeleteFunc(slices.Clone(l), func(p api.Peer) bool { return !p.In })
}

// placeOf is the place of an end in a list.
func placeOf(l []api.Peer, e api.End) int {
	return slices.IndexFunc(l, func(p api.Peer) bool { return p.End == e })
}

func TestEv2WhoGoesCameAndIsNotProtected(t *testing.T) {
	for _, l := range different() {
		for _, q := range quotas() {
			for _, secret := range []uint64{0, 99, top} {
				e, ok := evict.Choose(l, q, secret)
				inner := came(l)
				if !ok {
					if len(shield.Left(inner, q, secret)) > 0 {
						t.Fatalf("nobody goes of %+v with %+v", l, q)
					}
					continue
				}
				i := placeOf(inner, e)
				if i < 0 || shield.Saved(inner, q, secret)[i] || shield.Inside(inner, i, q, secret) {
					t.Fatalf("%+v goes of %+v with %+v", e, l, q)
				}
			}
		}
	}
}

// firsts are the places of the first ones by an order of those that came, sorted by what the order says, not by layer 18's First.
func firsts(l []api.Peer, by, n int, secret uint64) []api.End {
	row := slices.DeleteFunc(came(l), func(p api.Peer) bool { return !rank.Counts(p, by) })
	slices.SortFunc(row, func(a, b api.Peer) int {
		if rank.Ahead(a, b, by, secret) {
			return -1
		}
		return 1
	})
	var first []api.End
	for _, p := range row[:max(0, min(n, len(row)))] {
		first = append(first, p.End)
	}
	return first
}

// Who is among the first of all that came stays, however many others are protected by the other quotas.
func TestEv2TheFirstWithinAQuotaStay(t *testing.T) {
	for _, l := range different() {
		for _, q := range quotas() {
			e, ok := evict.Choose(l, q, 99)
			for _, p := range parts() {
				if ok && slices.Contains(firsts(l, p.by, *p.of(&q), 99), e) {
					t.Fatalf("%+v goes of %+v with %+v, and is among the first by the order %d", e, l, q, p.by)
				}
			}
		}
	}
}

// Again and again one goes, until nobody does: those that were dialled and those that were protected in the beginning are still there.
func TestEv2AllOthersGoOneAfterTheOther(t *testing.T) {
	for _, l := range different() {
		for _, q := range quotas() {
			stay := slices.Clone(l)
			for _, p := range evict.Candidates(l, q, 99) {
				i := placeOf(stay, p.End)
				stay = slices.Delete(stay, i, i+1)
			}
			m := slices.Clone(l)
			for {
				e, ok := evict.Choose(m, q, 99)
				if !ok {
					break
				}
				i := placeOf(m, e)
				if i < 0 {
					t.Fatalf("%+v goes of %+v", e, m)
				}
				m = slices.Delete(m, i, i+1)
			}
			if !slices.Equal(m, stay) {
				t.Fatalf("of %+v with %+v there stay %+v, not %+v", l, q, m, stay)
			}
		}
	}
}

// permuted hands out all orders of a list.
func permuted(l []api.Peer, see func([]api.Peer)) {
	var more func(k int)
	more = func(k int) {
		if k == len(l) {
			see(l)
			return
		}
		for i := k; i < len(l); i++ {
			l[k], l[i] = l[i], l[k]
			more(k + 1)
			l[k], l[i] = l[i], l[k]
		}
	}
	more(0)
}

func TestEv2AllOrdersOfShortLists(t *testing.T) {
	for _, l := range [][]api.Peer{
		{in(1, 1, 5), in(1, 2, 9), in(2, 1, 20), in(1, 3, 9), out(in(2, 2, 20)), in(3, 1, 30), in(3, 2, 30)},
		{in(1, 1, 5), in(1, 2, 5), ping(in(2, 1, 5), 3), ping(in(2, 2, 5), 3), known(six(six2001, 1), 3, 0, 5), out(known(six(six2001, 2), 1, 1, 1))},
		{known(four(1<<32), 0, 0, 5), known(six(0, 0xffff0a010001), 0, 0, 4), in(1, 1, 5), out(in(1, 2, 6)), in(2, 1, 9), {}, known(six(six2001, 2), 2, 2, 5)},
	} {
		for _, q := range []api.Quota{{}, {Group: 1}, {Group: 2, Ping: 1}, {Ping: 2}, {Work: 1, Time: 1}, {Time: 2}, {Group: 1, Ping: 1, Work: 1, Time: 1}} {
			want, ok := evict.Choose(l, q, 99)
			permuted(slices.Clone(l), func(m []api.Peer) { checkChoose(t, m, q, 99, want, ok) })
		}
	}
}

func TestEv2ListsInAnyOrder(t *testing.T) {
	state := uint64(9)
	for _, l := range append(different(), apart(150, &state)) {
		for _, q := range quotas() {
			want, ok := evict.Choose(l, q, 99)
			size := len(evict.Candidates(l, q, 99))
			for range 3 {
				m := shuffled(l, &state)
				checkChoose(t, m, q, 99, want, ok)
				if got := len(evict.Candidates(m, q, 99)); got != size {
					t.Fatalf("%d of %+v may go, and %d of %+v", size, l, got, m)
				}
			}
		}
	}
}

// However many were dialled, and whatever they are, the choice is the same.
func TestEv2ThoseThatWereDialledChangeNothing(t *testing.T) {
	state := uint64(10)
	for _, l := range different() {
		for _, q := range quotas() {
			want, ok := evict.Choose(came(l), q, 99)
			m := came(l)
			for i, p := range some(20, &state) {
				p.End.Port = 1000 + i
				m = append(m, out(p))
			}
			checkChoose(t, l, q, 99, want, ok)
			checkChoose(t, shuffled(m, &state), q, 99, want, ok)
		}
	}
}

// The one that goes is of a group than which none has more candidates, and is the youngest of it.
func TestEv2TheGreatestGroupGivesItsYoungest(t *testing.T) {
	for _, l := range different() {
		for _, q := range quotas() {
			rest := evict.Candidates(l, q, 99)
			e, ok := evict.Choose(l, q, 99)
			if !ok {
				continue
			}
			k := placeOf(rest, e)
			for i, p := range rest {
				same := together(p.End.Addr, e.Addr)
				if crowd.Crowd(rest, i) > crowd.Crowd(rest, k) || same && crowd.Younger(p, rest[k]) {
					t.Fatalf("%+v goes of %+v, and not %+v", e, rest, p.End)
				}
			}
		}
	}
}
