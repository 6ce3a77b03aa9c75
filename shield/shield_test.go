package shield_test

import (
	"math"
	"slices"
	"sort"
	"sync"
	"testing"

	"doorman/api"
	"doorman/rank"
	"doorman/shield"
)

const (
	topTick  = 1 << 40
	topPing  = 1 << 20
	topPort  = 65535
	topQuota = 64
	top      = math.MaxUint64
)

func four(n uint64) api.Addr { return api.Addr{Lo: n} }

func six(hi, lo uint64) api.Addr { return api.Addr{V6: true, Hi: hi, Lo: lo} }

// known is a peer at an address, with its numbers.
func known(a api.Addr, ping, work, since int) api.Peer {
	return api.Peer{End: api.End{Addr: a, Port: 80}, Ping: ping, Work: work, Since: since}
}

// near is a peer at the n-th address of 10.0.0.0/16.
func near(n uint64, ping, work, since int) api.Peer {
	return known(four(0x0a000000+n), ping, work, since)
}

// secrets are ordinary ones, and the limits.
func secrets() []uint64 { return []uint64{0, 1, 99, 1<<63 - 1, 1 << 63, top} }

// amounts are quotas of both signs: ordinary ones, the limits and those beside them, and extreme ones.
func amounts() []int {
	return []int{math.MinInt, math.MinInt + 1, -1 << 32, 1 - 1<<32, -topQuota - 1, -topQuota, -2, -1, 0, 1, 2, 3, 5, 10, topQuota - 1, topQuota, topQuota + 1, 255, 256, 257, 1<<31 - 1, 1 << 31, 1 << 32, 1<<32 + 1, math.MaxInt - 1, math.MaxInt}
}

// numbers are those of peers.
func numbers() []int {
	return []int{math.MinInt, -1, 0, 1, 2, topPing, topPing + 1, topTick, topTick + 1, math.MaxInt}
}

// part is one of the four quotas, of which each has its order.
type part struct {
	name string
	by   int
	of   func(q *api.Quota) *int
}

// parts are the four in the order in which they are applied.
func parts() []part {
	return []part{
		{"Group", rank.ByGroup, func(q *api.Quota) *int { return &q.Group }},
		{"Ping", rank.ByPing, func(q *api.Quota) *int { return &q.Ping }},
		{"Work", rank.ByWork, func(q *api.Quota) *int { return &q.Work }},
		{"Time", rank.ByTime, func(q *api.Quota) *int { return &q.Time }},
	}
}

func with(q api.Quota, p part, n int) api.Quota {
	*p.of(&q) = n
	return q
}

// foremost is the place of the one that is the first of those that count and are not kept; -1 if there is none.
func foremost(l []api.Peer, kept []bool, by int, secret uint64) int {
	best := -1
	for i, p := range l {
		if !kept[i] && rank.Counts(p, by) && (best < 0 || rank.Ahead(p, l[best], by, secret)) {
			best = i
		}
	}
	return best
}

// protected says once more what the chapter says, peer by peer.
func protected(l []api.Peer, q api.Quota, secret uint64) []bool {
	kept := make([]bool, len(l))
	for _, p := range parts() {
		for n := *p.of(&q); n > 0; n-- {
			i := foremost(l, kept, p.by, secret)
			if i < 0 {
				break
			}
			kept[i] = true
		}
	}
	return kept
}

// ahead is how many count and are before one.
func ahead(l []api.Peer, i, by int, secret uint64) int {
	n := 0
	for _, p := range l {
		if rank.Counts(p, by) && rank.Ahead(p, l[i], by, secret) {
			n++
		}
	}
	return n
}

// inner says once more who is inside.
func inner(l []api.Peer, i int, q api.Quota, secret uint64) bool {
	if i < 0 || i >= len(l) {
		return false
	}
	return slices.ContainsFunc(parts(), func(p part) bool {
		return rank.Counts(l[i], p.by) && *p.of(&q) > ahead(l, i, p.by, secret)
	})
}

// lined hands in a list with something behind it, and asks that nothing is written to it.
func lined[A any](t *testing.T, l []api.Peer, ask func([]api.Peer) A) A {
	t.Helper()
	own := append(slices.Clone(l), near(77, 1, 1, -9), near(78, 0, 0, -9))
	before := slices.Clone(own)
	answer := ask(own[:len(l)])
	if !slices.Equal(own, before) {
		t.Fatalf("%+v was changed to %+v", before, own)
	}
	return answer
}

// checkSaved asks Saved and Left who is protected.
func checkSaved(t *testing.T, l []api.Peer, q api.Quota, secret uint64, want []bool) {
	t.Helper()
	saved := lined(t, l, func(l []api.Peer) []bool { return shield.Saved(l, q, secret) })
	if !slices.Equal(saved, want) {
		t.Fatalf("Saved(%+v, %+v, %d) is %v, not %v", l, q, secret, saved, want)
	}
	var rest []int
	for i, is := range want {
		if !is {
			rest = append(rest, i)
		}
	}
	left := lined(t, l, func(l []api.Peer) []int { return shield.Left(l, q, secret) })
	if !slices.Equal(left, rest) {
		t.Fatalf("Left(%+v, %+v, %d) is %v, not %v", l, q, secret, left, rest)
	}
}

// checkThose asks for the indexes of the protected ones.
func checkThose(t *testing.T, l []api.Peer, q api.Quota, secret uint64, want []int) {
	t.Helper()
	kept := make([]bool, len(l))
	for _, i := range want {
		kept[i] = true
	}
	checkSaved(t, l, q, secret, kept)
}

func checkInside(t *testing.T, l []api.Peer, i int, q api.Quota, secret uint64, want bool) {
	t.Helper()
	got := lined(t, l, func(l []api.Peer) bool { return shield.Inside(l, i, q, secret) })
	if got != want {
		t.Fatalf("Inside(%+v, %d, %+v, %d) is %v", l, i, q, secret, got)
	}
}

// checkList asks about a list, and about each index of it and beside it.
func checkList(t *testing.T, l []api.Peer, q api.Quota, secret uint64) {
	t.Helper()
	checkSaved(t, l, q, secret, protected(l, q, secret))
	for i := -1; i <= len(l); i++ {
		checkInside(t, l, i, q, secret, inner(l, i, q, secret))
	}
}

// draw is a plain sequence of numbers that is the same each time.
func draw(state *uint64) int {
	*state = *state*6364136223846793005 + 1442695040888963407
	return int(*state >> 8)
}

// crowd is a list of any length, with many equal numbers, groups and ends.
func crowd(n int, state *uint64) []api.Peer {
	l := make([]api.Peer, n)
	for i := range l {
		a := four(uint64(0x0a000000 + draw(state)%4<<16 + draw(state)%9))
		if draw(state)%3 == 0 {
			a = six(uint64(0x20010db800000000+draw(state)%4<<32), uint64(draw(state)%9))
		}
		l[i] = known(a, draw(state)%9-1, draw(state)%9-1, draw(state)%9-1)
		l[i].End.Port += draw(state) % 3
		l[i].In, l[i].Score = draw(state)%2 == 0, api.Score{Points: draw(state) % 9, At: draw(state) % 9}
	}
	return l
}

// apart is a list of peers with different ends.
func apart(n int, state *uint64) []api.Peer {
	l := crowd(n, state)
	for i := range l {
		l[i].End.Port = 1 + i
	}
	return shuffled(l, state)
}

func shuffled(l []api.Peer, state *uint64) []api.Peer {
	l = slices.Clone(l)
	for i := range l {
		j := i + draw(state)%(len(l)-i)
		l[i], l[j] = l[j], l[i]
	}
	return l
}

// drawn are quotas from -1 to a most.
func drawn(most int, state *uint64) api.Quota {
	amount := func() int { return draw(state)%(most+2) - 1 }
	return api.Quota{Group: amount(), Ping: amount(), Work: amount(), Time: amount()}
}

// some is a list in which each order is another one. With the secret 99 it is, by group, 3, 1, 4, 2, 0, 5 (as the tests of
// layer 18 have it from another program); by Ping 1, 2, 4, 0; by Work 3, 2, 0; by time 5, 4, 3, 2, 1, 0.
func some() []api.Peer {
	return []api.Peer{
		known(four(0x0a010001), 9, 1, 9), known(four(0x0a000001), 2, 0, 8), known(four(0x0b000001), 3, 7, 7),
		known(four(0), 0, 8, 6), known(six(0x20010db800000000, 1), 4, 0, 5), known(four(1<<32), -1, -1, -3),
	}
}

func TestSh1SavedByHand(t *testing.T) {
	for _, c := range []struct {
		q    api.Quota
		want []int
	}{
		{api.Quota{}, nil},
		{api.Quota{Group: 1}, []int{3}}, {api.Quota{Group: 2}, []int{1, 3}}, {api.Quota{Group: 3}, []int{1, 3, 4}}, {api.Quota{Group: 4}, []int{1, 2, 3, 4}}, {api.Quota{Group: 5}, []int{0, 1, 2, 3, 4}}, {api.Quota{Group: 6}, []int{0, 1, 2, 3, 4, 5}}, {api.Quota{Group: 7}, []int{0, 1, 2, 3, 4, 5}},
		{api.Quota{Ping: 1}, []int{1}}, {api.Quota{Ping: 2}, []int{1, 2}}, {api.Quota{Ping: 3}, []int{1, 2, 4}}, {api.Quota{Ping: 4}, []int{0, 1, 2, 4}}, {api.Quota{Ping: 5}, []int{0, 1, 2, 4}}, {api.Quota{Ping: 64}, []int{0, 1, 2, 4}},
		{api.Quota{Work: 1}, []int{3}}, {api.Quota{Work: 2}, []int{2, 3}}, {api.Quota{Work: 3}, []int{0, 2, 3}}, {api.Quota{Work: 4}, []int{0, 2, 3}}, {api.Quota{Work: 64}, []int{0, 2, 3}},
		{api.Quota{Time: 1}, []int{5}}, {api.Quota{Time: 2}, []int{4, 5}}, {api.Quota{Time: 4}, []int{2, 3, 4, 5}}, {api.Quota{Time: 6}, []int{0, 1, 2, 3, 4, 5}}, {api.Quota{Time: 64}, []int{0, 1, 2, 3, 4, 5}},
		{api.Quota{Group: 1, Ping: 1, Work: 1, Time: 1}, []int{1, 2, 3, 5}}, {api.Quota{Ping: 9, Work: 9}, []int{0, 1, 2, 3, 4}}, {api.Quota{Ping: 1, Time: 1}, []int{1, 5}}, {api.Quota{Group: 64, Ping: 64, Work: 64, Time: 64}, []int{0, 1, 2, 3, 4, 5}},
		{api.Quota{Ping: -1, Work: 1}, []int{3}}, {api.Quota{Group: -1, Ping: -1, Work: -1, Time: -1}, nil}, {api.Quota{Group: -2, Time: 2}, []int{4, 5}},
	} {
		checkThose(t, some(), c.q, 99, c.want)
	}
}

// Of each two quotas the one that comes first takes its peers, and the other one those behind them: the other way round, others would be protected.
func TestSh1QuotasAreAppliedOneAfterTheOther(t *testing.T) {
	for _, c := range []struct {
		q    api.Quota
		want []int
	}{
		{api.Quota{Group: 2, Ping: 1}, []int{3, 1, 2}}, {api.Quota{Group: 1, Work: 1}, []int{3, 2}}, {api.Quota{Group: 1, Time: 3}, []int{3, 5, 4, 2}},
		{api.Quota{Ping: 2, Work: 2}, []int{1, 2, 3, 0}}, {api.Quota{Ping: 3, Time: 2}, []int{1, 2, 4, 5, 3}}, {api.Quota{Work: 2, Time: 3}, []int{3, 2, 5, 4, 1}},
	} {
		checkThose(t, some(), c.q, 99, c.want)
	}
}

// One peer that is the first of all orders takes one slot of one quota only.
func TestSh1NoPeerTakesTwoQuotas(t *testing.T) {
	l := []api.Peer{near(4, 8, 2, 8), near(1, 1, 9, 1), near(3, 6, 4, 6), near(2, 4, 6, 4), near(5, 9, 1, 9)}
	checkThose(t, l, api.Quota{Group: 1, Ping: 1}, 7, []int{1, 3})
	checkThose(t, l, api.Quota{Group: 1, Ping: 1, Work: 1}, 7, []int{1, 3, 2})
	checkThose(t, l, api.Quota{Group: 1, Ping: 1, Work: 1, Time: 1}, 7, []int{1, 3, 2, 0})
	checkThose(t, l, api.Quota{Ping: 2, Time: 2}, 7, []int{1, 3, 2, 0})
	checkThose(t, l, api.Quota{Work: 2, Time: 3}, 7, []int{1, 3, 2, 0, 4})
}

func TestSh1ExampleOfTheChapter(t *testing.T) {
	l := []api.Peer{near(1, 5, 0, 0), near(2, 3, 0, 0)}
	checkThose(t, l, api.Quota{Ping: 1}, 1, []int{1})
	checkInside(t, l, 0, api.Quota{Ping: 1}, 1, false)
	checkInside(t, l, 1, api.Quota{Ping: 1}, 1, true)
}

// The orders by group were worked out by another program, number by number (see the tests of layer 18).
func TestSh1SavedByGroupAndSecret(t *testing.T) {
	l := []api.Peer{known(four(0x0a000001), 0, 0, 0), known(four(0x0a010001), 0, 0, 0), known(four(0x0b000001), 0, 0, 0), known(four(0), 0, 0, 0), known(six(0x20010db800000000, 1), 0, 0, 0), known(four(1<<32), 0, 0, 0)}
	for _, c := range []struct {
		secret uint64
		row    []int
	}{
		{0, []int{0, 4, 3, 2, 1, 5}}, {1, []int{3, 4, 2, 5, 1, 0}}, {99, []int{3, 0, 4, 2, 1, 5}}, {1<<63 - 1, []int{3, 4, 1, 2, 5, 0}}, {top, []int{1, 0, 3, 2, 5, 4}},
	} {
		for n := range len(l) + 1 {
			q := api.Quota{Group: n}
			checkThose(t, l, q, c.secret, c.row[:n])
			for place, i := range c.row {
				checkInside(t, l, i, q, c.secret, place < n)
			}
		}
	}
}

// Only ByGroup asks for the secret.
func TestSh1SecretIsForGroupsOnly(t *testing.T) {
	for _, secret := range secrets() {
		checkThose(t, some(), api.Quota{Ping: 3, Time: 2}, secret, []int{1, 2, 4, 5, 3})
		checkThose(t, some(), api.Quota{Ping: 2, Work: 2}, secret, []int{1, 2, 3, 0})
		for _, q := range []api.Quota{{Group: 1}, {Group: 3, Ping: 1}, {Group: 2, Ping: 1, Work: 1, Time: 1}} {
			checkList(t, some(), q, secret)
		}
	}
}

func TestSh1OfNobody(t *testing.T) {
	for _, l := range [][]api.Peer{nil, {}} {
		for _, p := range parts() {
			for _, n := range amounts() {
				checkList(t, l, with(api.Quota{}, p, n), 99)
				checkInside(t, l, 0, with(api.Quota{}, p, n), 99, false)
			}
		}
	}
}

// A quota below 1 protects nobody, and takes nothing from the others.
func TestSh1QuotasBelowOne(t *testing.T) {
	for _, n := range amounts() {
		if n >= 1 {
			break
		}
		checkThose(t, some(), api.Quota{Group: n, Ping: n, Work: n, Time: n}, 99, nil)
		for i := range some() {
			checkInside(t, some(), i, api.Quota{Group: n, Ping: n, Work: n, Time: n}, 99, false)
		}
		for _, c := range []struct {
			q    api.Quota
			want int
		}{
			{api.Quota{Group: 1, Ping: n, Work: n, Time: n}, 3}, {api.Quota{Group: n, Ping: 1, Work: n, Time: n}, 1}, {api.Quota{Group: n, Ping: n, Work: 1, Time: n}, 3}, {api.Quota{Group: n, Ping: n, Work: n, Time: 1}, 5},
		} {
			checkThose(t, some(), c.q, 99, []int{c.want})
			for i := range some() {
				checkInside(t, some(), i, c.q, 99, i == c.want)
			}
		}
	}
}

func TestSh1EachAmount(t *testing.T) {
	state := uint64(1)
	for _, l := range [][]api.Peer{some(), crowd(12, &state), apart(80, &state)} {
		for _, p := range parts() {
			for _, n := range amounts() {
				checkList(t, l, with(api.Quota{}, p, n), 99)
				checkList(t, l, with(api.Quota{Group: 2, Ping: 2, Work: 2, Time: 2}, p, n), 99)
			}
		}
	}
}

func TestSh1EachPairOfAmounts(t *testing.T) {
	state := uint64(2)
	for _, l := range [][]api.Peer{some(), crowd(9, &state)} {
		for k, p := range parts() {
			for _, other := range parts()[k+1:] {
				for _, n := range amounts() {
					for _, m := range amounts() {
						checkList(t, l, with(with(api.Quota{}, p, n), other, m), 99)
					}
				}
			}
		}
	}
}

// At the limit the list has more peers than the quota protects: 63 to 65 of a hundred.
func TestSh1QuotasAtTheLimit(t *testing.T) {
	var l []api.Peer
	for i := range 100 {
		l = append(l, near(uint64(i), 1+i, topTick-i, i))
	}
	for _, n := range []int{topQuota - 1, topQuota, topQuota + 1} {
		for _, p := range parts() {
			kept := make([]bool, len(l))
			for i := range n {
				kept[i] = true
			}
			q := with(api.Quota{}, p, n)
			checkSaved(t, l, q, 7, kept)
			for i := range l {
				checkInside(t, l, i, q, 7, i < n)
			}
		}
	}
	kept := slices.Repeat([]bool{true}, 100)
	checkSaved(t, l, api.Quota{Group: topQuota, Time: 36}, 7, kept)
	kept[99] = false
	checkSaved(t, l, api.Quota{Group: topQuota, Time: 35}, 7, kept)
	checkSaved(t, l, api.Quota{Ping: topQuota, Work: 35}, 7, kept)
}

// few are peers some of which are equal, share an end, do not count, or are not valid.
func few() []api.Peer {
	twin := near(1, 5, 4, 3)
	twin.In = true
	return []api.Peer{{}, near(1, 5, 4, 3), twin, near(1, 4, 4, 3), near(2, 0, 5, 3), known(six(0x20010db800000000, 1), 3, 0, 4), known(four(1<<32), -1, -1, -1)}
}

// eachFew hands out all lists of at most so many of the few.
func eachFew(most int, see func([]api.Peer)) {
	var more func(l []api.Peer)
	more = func(l []api.Peer) {
		see(l)
		if len(l) == most {
			return
		}
		for _, p := range few() {
			more(append(slices.Clone(l), p))
		}
	}
	more(nil)
}

// eachQuota hands out all quotas from 0 to a most.
func eachQuota(most int, see func(api.Quota)) {
	for group := range most + 1 {
		for ping := range most + 1 {
			for work := range most + 1 {
				for time := range most + 1 {
					see(api.Quota{Group: group, Ping: ping, Work: work, Time: time})
				}
			}
		}
	}
}

func TestSh1AllShortLists(t *testing.T) {
	eachFew(3, func(l []api.Peer) {
		eachQuota(2, func(q api.Quota) { checkList(t, l, q, 99) })
	})
}

func TestSh1AllSmallQuotas(t *testing.T) {
	state := uint64(3)
	for _, l := range [][]api.Peer{some(), few(), crowd(7, &state), apart(7, &state)} {
		eachQuota(4, func(q api.Quota) { checkList(t, l, q, 99) })
	}
}

// Equal peers: the first ones of the list are protected, one for each slot, and all of them are inside.
func TestSh1EqualPeers(t *testing.T) {
	for _, size := range []int{1, 2, 3, 13, 50} {
		l := slices.Repeat([]api.Peer{near(1, 3, 4, 5)}, size)
		for i := range l {
			// What no order asks for does not part them.
			l[i].In, l[i].Score = i%2 == 0, api.Score{Points: size - i, At: i % 7}
		}
		eachQuota(2, func(q api.Quota) {
			n := q.Group + q.Ping + q.Work + q.Time
			var first []int
			for i := range min(n, size) {
				first = append(first, i)
			}
			checkThose(t, l, q, 7, first)
			for i := range l {
				checkInside(t, l, i, q, 7, n > 0)
			}
		})
	}
}

// Whether a peer came or was dialled does not matter here, and its score does not either.
func TestSh1GoesByTheOrdersOnly(t *testing.T) {
	for _, q := range []api.Quota{{Group: 2}, {Ping: 2}, {Work: 2}, {Time: 2}, {Group: 1, Ping: 1, Work: 1, Time: 1}} {
		want := protected(some(), q, 99)
		for i := range some() {
			l := some()
			l[i].In = true
			checkSaved(t, l, q, 99, want)
			l[i].Score = api.Score{Points: topTick, At: math.MinInt}
			checkSaved(t, l, q, 99, want)
		}
	}
}

// Peers that do not count are not protected by the order, although their number is the least and nobody precedes them.
func TestSh1PeersThatDoNotCount(t *testing.T) {
	for _, n := range []int{math.MinInt, -1, 0} {
		l := []api.Peer{near(1, n, n, 9), near(2, 5, 5, 9), near(3, n, n, 9)}
		for _, most := range []int{1, 2, 3, 4, math.MaxInt} {
			for _, q := range []api.Quota{{Ping: most}, {Work: most}, {Ping: most, Work: most}} {
				checkThose(t, l, q, 7, []int{1})
				checkInside(t, l, 0, q, 7, false)
				checkInside(t, l, 1, q, 7, true)
				checkInside(t, l, 2, q, 7, false)
			}
		}
		checkThose(t, l, api.Quota{Ping: 9, Time: 1}, 7, []int{1, 0})
		checkThose(t, l, api.Quota{Group: 1, Work: 9}, 7, []int{0, 1})
	}
}

func TestSh1ExtremeNumbersOfPeers(t *testing.T) {
	for _, a := range numbers() {
		for _, b := range numbers() {
			l := []api.Peer{near(3, a, b, a), near(2, b, a, b), near(1, 1, 1, 1)}
			for _, n := range []int{1, 2} {
				for _, p := range parts() {
					checkList(t, l, with(api.Quota{}, p, n), 7)
				}
				checkList(t, l, api.Quota{Ping: n, Work: 1}, 7)
			}
		}
	}
}

func TestSh1InsideByHand(t *testing.T) {
	for _, c := range []struct {
		q    api.Quota
		want []int
	}{
		{api.Quota{}, nil}, {api.Quota{Group: 1}, []int{3}}, {api.Quota{Group: 3}, []int{1, 3, 4}}, {api.Quota{Group: 5}, []int{0, 1, 2, 3, 4}}, {api.Quota{Group: 6}, []int{0, 1, 2, 3, 4, 5}},
		{api.Quota{Ping: 1}, []int{1}}, {api.Quota{Ping: 3}, []int{1, 2, 4}}, {api.Quota{Ping: 64}, []int{0, 1, 2, 4}},
		{api.Quota{Work: 1}, []int{3}}, {api.Quota{Work: 2}, []int{2, 3}}, {api.Quota{Work: 64}, []int{0, 2, 3}},
		{api.Quota{Time: 1}, []int{5}}, {api.Quota{Time: 5}, []int{1, 2, 3, 4, 5}}, {api.Quota{Time: 6}, []int{0, 1, 2, 3, 4, 5}},
		// Here a quota protects others than those that are inside: the first ones were protected before.
		{api.Quota{Group: 2, Ping: 1}, []int{1, 3}}, {api.Quota{Group: 1, Work: 1}, []int{3}}, {api.Quota{Ping: 2, Work: 2}, []int{1, 2, 3}}, {api.Quota{Group: 1, Ping: 1, Work: 1, Time: 1}, []int{1, 3, 5}},
	} {
		for i := range some() {
			checkInside(t, some(), i, c.q, 99, slices.Contains(c.want, i))
		}
	}
}

func TestSh1InsideOfNoIndex(t *testing.T) {
	for _, l := range [][]api.Peer{nil, {}, some()[:1], some()} {
		for _, i := range append(amounts(), len(l), len(l)+1, 6, 7) {
			if i >= 0 && i < len(l) {
				continue
			}
			for _, q := range []api.Quota{{}, {Group: 64}, {Ping: 64}, {Work: 64}, {Time: 64}, {Group: math.MaxInt, Ping: math.MaxInt, Work: math.MaxInt, Time: math.MaxInt}, {Group: -1, Ping: -1, Work: -1, Time: -1}} {
				checkInside(t, l, i, q, 99, false)
			}
		}
	}
}

func TestSh1AnswersAreNewMemory(t *testing.T) {
	q := api.Quota{Group: 1, Ping: 1}
	saved, left := shield.Saved(some(), q, 99), shield.Left(some(), q, 99)
	for i := range saved {
		saved[i] = !saved[i]
	}
	for i := range left {
		left[i] = -5
	}
	checkThose(t, some(), q, 99, []int{1, 3})
}

func TestSh1RandomLists(t *testing.T) {
	state := uint64(4)
	for size := range 60 {
		for _, l := range [][]api.Peer{crowd(size, &state), apart(size, &state)} {
			for range 4 {
				checkList(t, l, drawn(1+size/3, &state), uint64(draw(&state)))
			}
		}
	}
}

// sorted says the same for long lists, by the library's sort.
func sorted(l []api.Peer, q api.Quota, secret uint64) []bool {
	kept := make([]bool, len(l))
	for _, p := range parts() {
		var row []int
		for i := range l {
			if !kept[i] && rank.Counts(l[i], p.by) {
				row = append(row, i)
			}
		}
		sort.SliceStable(row, func(i, j int) bool { return rank.Ahead(l[row[i]], l[row[j]], p.by, secret) })
		for _, i := range row[:max(0, min(*p.of(&q), len(row)))] {
			kept[i] = true
		}
	}
	return kept
}

func TestSh1LongLists(t *testing.T) {
	state := uint64(5)
	for _, size := range []int{1000, 65535} {
		l := crowd(size, &state)
		for _, q := range []api.Quota{{Group: topQuota, Ping: topQuota, Work: topQuota, Time: topQuota}, {Group: size / 3, Ping: size / 4, Work: size / 5, Time: 1}} {
			if got := shield.Saved(l, q, 99); !slices.Equal(got, sorted(l, q, 99)) {
				t.Fatalf("Saved of %d peers with %+v is another one", size, q)
			}
			for _, i := range []int{0, 1, size / 2, size - 1} {
				if got := shield.Inside(l, i, q, 99); got != inner(l, i, q, 99) {
					t.Fatalf("Inside of %d of %d peers with %+v is %v", i, size, q, got)
				}
			}
		}
	}
}

// Many goroutines may ask about one list at once, and about another one each.
func TestSh1ManyGoroutines(t *testing.T) {
	state := uint64(6)
	l := crowd(200, &state)
	var all sync.WaitGroup
	for k := range 16 {
		own, q := crowd(40+k, &state), drawn(20, &state)
		all.Go(func() {
			for _, m := range [][]api.Peer{l, own} {
				if got := shield.Saved(m, q, 7); !slices.Equal(got, protected(m, q, 7)) {
					t.Errorf("Saved of %d peers with %+v is %v", len(m), q, got)
				}
				if got := shield.Inside(m, k, q, 7); got != inner(m, k, q, 7) {
					t.Errorf("Inside of %d of %d peers with %+v is %v", k, len(m), q, got)
				}
			}
		})
	}
	all.Wait()
}

// different are lists of peers with different ends, some of them not valid, many of their numbers equal.
func different() [][]api.Peer {
	state := uint64(7)
	odd := some()
	for i, a := range []api.Addr{four(1<<32 + 1), {Hi: 1, Lo: 0x0a000001}, six(0, 0xffff0a000001), six(top, top), four(0xffffffff)} {
		odd = append(odd, known(a, 3, 7, 7))
		odd[i].End.Port = []int{0, -1, topPort, topPort + 1, math.MaxInt}[i]
	}
	lists := [][]api.Peer{nil, some(), odd, {{}}}
	for size := range 30 {
		lists = append(lists, apart(size, &state))
	}
	return lists
}

// quotas are ordinary ones, none of them below 0, and the limits.
func quotas() []api.Quota {
	state := uint64(8)
	l := []api.Quota{{}, {Group: 1}, {Ping: 1}, {Work: 1}, {Time: 1}, {Group: 1, Ping: 1, Work: 1, Time: 1}, {Group: topQuota, Ping: topQuota, Work: topQuota, Time: topQuota}}
	for range 40 {
		q := drawn(9, &state)
		l = append(l, api.Quota{Group: max(0, q.Group), Ping: max(0, q.Ping), Work: max(0, q.Work), Time: max(0, q.Time)})
	}
	return l
}

func TestSh2WhoIsInsideIsProtected(t *testing.T) {
	for _, l := range different() {
		for _, q := range quotas() {
			for _, secret := range []uint64{0, 99, top} {
				saved := shield.Saved(l, q, secret)
				for i := range l {
					if shield.Inside(l, i, q, secret) && !saved[i] {
						t.Fatalf("%d of %+v is inside %+v but not protected", i, l, q)
					}
				}
			}
		}
	}
}

// Peers with one end may be inside without being protected: they share a place, which is why Sh2 asks for different ends.
func TestSh2EqualEndsMayBeInsideUnprotected(t *testing.T) {
	l := []api.Peer{near(1, 5, 0, 0), near(1, 5, 0, 0)}
	checkInside(t, l, 1, api.Quota{Ping: 1}, 7, true)
	checkThose(t, l, api.Quota{Ping: 1}, 7, []int{0})
}

func TestSh2GreaterQuotasLeaveNoMore(t *testing.T) {
	state := uint64(9)
	for _, l := range append(different(), crowd(25, &state), few()) {
		for _, q := range quotas() {
			left := shield.Left(l, q, 99)
			for _, p := range parts() {
				for _, n := range []int{1, 2, 7, topQuota} {
					more := with(q, p, *p.of(&q)+n)
					if got := shield.Left(l, more, 99); len(got) > len(left) {
						t.Fatalf("%+v leaves %v of %+v, and %+v leaves %v", q, left, l, more, got)
					}
				}
			}
			all := api.Quota{Group: q.Group + 1, Ping: q.Ping + 1, Work: q.Work + 1, Time: q.Time + 1}
			if got := shield.Left(l, all, 99); len(got) > len(left) {
				t.Fatalf("%+v leaves %v of %+v, and %+v leaves %v", q, left, l, all, got)
			}
		}
	}
}

// As many are protected as there are slots of the quotas, if enough peers count, and never more.
func TestSh2NoMoreThanTheSumOfTheQuotas(t *testing.T) {
	state := uint64(10)
	long := apart(300, &state)
	for i := range long {
		long[i].Ping, long[i].Work = 1+i%9, 1+i%7
	}
	for _, l := range append(different(), crowd(25, &state), few(), long) {
		for _, q := range quotas() {
			sum := q.Group + q.Ping + q.Work + q.Time
			kept := len(l) - len(shield.Left(l, q, 99))
			if kept > sum || len(l) == len(long) && kept != sum {
				t.Fatalf("%d of %d peers are protected by %+v", kept, len(l), q)
			}
		}
	}
}

// Who is protected does not depend on where a peer stands in its list.
func TestSh2ListsInAnyOrder(t *testing.T) {
	state := uint64(11)
	for _, l := range different() {
		for _, q := range quotas() {
			want := map[api.End]bool{}
			for i, is := range shield.Saved(l, q, 99) {
				want[l[i].End] = is
			}
			m := shuffled(l, &state)
			for i, is := range shield.Saved(m, q, 99) {
				if is != want[m[i].End] {
					t.Fatalf("%+v is protected in one of %+v and %+v only", m[i], l, m)
				}
			}
		}
	}
}
