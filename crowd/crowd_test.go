package crowd_test

import (
	"math"
	"slices"
	"sync"
	"testing"

	"doorman/api"
	"doorman/crowd"
)

const (
	topTick = 1 << 40
	topPort = 65535
	top     = math.MaxUint64
	six2001 = 0x20010db8 << 32
)

func four(n uint64) api.Addr { return api.Addr{Lo: n} }

func six(hi, lo uint64) api.Addr { return api.Addr{V6: true, Hi: hi, Lo: lo} }

func end(a api.Addr, port int) api.End { return api.End{Addr: a, Port: port} }

// at is a peer of which nothing is known but where it is, and since when.
func at(a api.Addr, since int) api.Peer { return api.Peer{End: end(a, 80), Since: since} }

// in is a peer at the n-th address of a group: of 10.g.0.0/16.
func in(g, n uint64, since int) api.Peer { return at(four(10<<24+g<<16+n), since) }

// numbers are ticks and such as are none: ordinary ones, the limits and those beside them, and extreme ones, rising.
func numbers() []int {
	return []int{math.MinInt, math.MinInt + 1, -topTick - 1, -topTick, -1 << 32, -256, -9, -1, 0, 1, 2, 9, 255, 256, 1000, 1<<31 - 1, 1 << 31, 1 << 32, 1<<32 + 9, topTick - 1, topTick, topTick + 1, math.MaxInt - 1, math.MaxInt}
}

// wrong are addresses that are not valid.
func wrong() []api.Addr {
	return []api.Addr{
		four(1 << 32), four(0x10a000001), four(1<<32 + 10<<24), four(1 << 63), four(top), {Hi: 1}, {Hi: 1, Lo: 0x0a000001}, {Hi: six2001, Lo: 1}, {Hi: top, Lo: top},
		six(0, 0xffff00000000), six(0, 0xffff0a000001), six(0, 0xffffffffffff),
	}
}

// ends are in order, valid ones and such as are not.
func ends() []api.End {
	return []api.End{
		end(four(0), math.MinInt), end(four(0), 0), end(four(0), 1), end(four(0), topPort), end(four(1), 1), end(four(0x0a000001), -80), end(four(0x0a000001), 79), end(four(0x0a000001), 80), end(four(0x0a000001), 8080), end(four(0x0a000002), 1),
		end(four(0x0a010001), 80), end(four(0xffffffff), topPort), end(four(0xffffffff), topPort+1), end(four(1<<32), 80), end(four(top), 1), end(api.Addr{Hi: 1}, 5), end(api.Addr{Hi: 1, Lo: 0x0a000001}, 80), end(api.Addr{Hi: top}, 0),
		end(six(0, 0), 1), end(six(0, 1), 80), end(six(0, 0xffff0a000001), 80), end(six(1, 0), 80), end(six(six2001, 1), 79), end(six(six2001, 1), 80), end(six(six2001+1, 0), 80), end(six(six2001+1<<32, 0), 80), end(six(top, top), topPort), end(six(top, top), math.MaxInt),
	}
}

func valid(a api.Addr) bool {
	if a.V6 {
		return a.Hi != 0 || a.Lo>>32 != 0xffff
	}
	return a.Hi == 0 && a.Lo>>32 == 0
}

// together tells whether two addresses are in one group, or neither is valid.
func together(a, b api.Addr) bool {
	switch {
	case !valid(a) || !valid(b):
		return valid(a) == valid(b)
	case a.V6 != b.V6:
		return false
	case a.V6:
		return a.Hi>>32 == b.Hi>>32
	}
	return a.Lo>>16 == b.Lo>>16
}

// later tells field by field whether an end comes after another one.
func later(a, b api.End) bool {
	switch {
	case a.Addr.V6 != b.Addr.V6:
		return a.Addr.V6
	case a.Addr.Hi != b.Addr.Hi:
		return a.Addr.Hi > b.Addr.Hi
	case a.Addr.Lo != b.Addr.Lo:
		return a.Addr.Lo > b.Addr.Lo
	}
	return a.Port > b.Port
}

// younger, mates and youngest say once more what the chapter says.
func younger(a, b api.Peer) bool {
	return a.Since > b.Since || a.Since == b.Since && later(a.End, b.End)
}

func mates(l []api.Peer, i int) int {
	if i < 0 || i >= len(l) {
		return 0
	}
	n := 0
	for _, p := range l {
		if together(p.End.Addr, l[i].End.Addr) {
			n++
		}
	}
	return n
}

// youngest is the first one of those of a greatest crowd than whom none of them is younger.
func youngest(l []api.Peer) int {
	var sizes []int
	for i := range l {
		sizes = append(sizes, mates(l, i))
	}
	for i, p := range l {
		if sizes[i] < slices.Max(sizes) {
			continue
		}
		beaten := false
		for k, other := range l {
			beaten = beaten || sizes[k] == sizes[i] && younger(other, p)
		}
		if !beaten {
			return i
		}
	}
	return -1
}

func checkYounger(t *testing.T, a, b api.Peer, want bool) {
	t.Helper()
	if got := crowd.Younger(a, b); got != want {
		t.Fatalf("Younger(%+v, %+v) is %v", a, b, got)
	}
}

// checkOrder: the first peer is younger than the second one, and not the other way round.
func checkOrder(t *testing.T, a, b api.Peer) {
	t.Helper()
	checkYounger(t, a, b, true)
	checkYounger(t, b, a, false)
}

// lined hands in a list with something behind it, and asks that nothing is written to it.
func lined(t *testing.T, l []api.Peer, ask func([]api.Peer) int) int {
	t.Helper()
	own := append(slices.Clone(l), in(0, 1, math.MaxInt), in(0, 2, math.MaxInt))
	before := slices.Clone(own)
	answer := ask(own[:len(l)])
	if !slices.Equal(own, before) {
		t.Fatalf("%+v was changed to %+v", before, own)
	}
	return answer
}

func checkCrowd(t *testing.T, l []api.Peer, i, want int) {
	t.Helper()
	if got := lined(t, l, func(l []api.Peer) int { return crowd.Crowd(l, i) }); got != want {
		t.Fatalf("Crowd(%+v, %d) is %d, not %d", l, i, got, want)
	}
}

func checkPick(t *testing.T, l []api.Peer, want int) {
	t.Helper()
	if got := lined(t, l, crowd.Pick); got != want {
		t.Fatalf("Pick(%+v) is %d, not %d", l, got, want)
	}
}

// checkList asks about a list, and about each index of it and beside it.
func checkList(t *testing.T, l []api.Peer) {
	t.Helper()
	checkPick(t, l, youngest(l))
	for i := -1; i <= len(l); i++ {
		checkCrowd(t, l, i, mates(l, i))
	}
}

// draw is a plain sequence of numbers that is the same each time.
func draw(state *uint64) int {
	*state = *state*6364136223846793005 + 1442695040888963407
	return int(*state >> 8)
}

// some is a list of any length, with many equal ticks, groups and ends, and some addresses that are not valid.
func some(n int, state *uint64) []api.Peer {
	l := make([]api.Peer, n)
	for i := range l {
		a := four(uint64(10<<24 + draw(state)%4<<16 + draw(state)%5))
		switch draw(state) % 8 {
		case 0, 1, 2:
			a = six(uint64(six2001+draw(state)%4<<32+draw(state)%3), uint64(draw(state)%5))
		case 3:
			a = wrong()[draw(state)%len(wrong())]
		}
		l[i] = api.Peer{End: end(a, 80+draw(state)%3), In: draw(state)%2 == 0, Since: draw(state)%5 - 1}
		l[i].Score, l[i].Ping, l[i].Work = api.Score{Points: draw(state) % 9, At: draw(state) % 9}, draw(state)%9, draw(state)%9
	}
	return l
}

// apart is a list of peers with different ends.
func apart(n int, state *uint64) []api.Peer {
	l := some(n, state)
	for i := range l {
		l[i].End.Port = 1 + i
	}
	return shuffled(l, state)
}

func shuffled(l []api.Peer, state *uint64) []api.Peer {
	l = slices.Clone(l)
	for i := range l {
		j := i + draw(state)%(len(l)-i)
		l[i], l[j] = l[j], l[i]
	}
	return l
}

func TestCr1YoungerByHand(t *testing.T) {
	for _, c := range []struct{ a, b api.Peer }{
		{in(1, 1, 6), in(1, 1, 5)}, {in(1, 1, 6), in(1, 2, 5)}, {in(1, 2, 6), in(1, 1, 5)}, {in(1, 1, 1), in(9, 9, 0)}, {in(1, 1, 0), in(9, 9, -1)}, {in(1, 1, topTick), in(9, 9, topTick-1)}, {in(1, 1, 256), in(9, 9, 255)}, {in(1, 1, 1<<32), in(9, 9, 1)},
		{in(1, 2, 5), in(1, 1, 5)}, {in(2, 1, 5), in(1, 1, 5)}, {in(2, 1, 5), in(1, 9, 5)}, {in(1, 2, 0), in(1, 1, 0)}, {in(1, 2, topTick), in(1, 1, topTick)}, {in(1, 2, -3), in(1, 1, -3)},
		{at(six(six2001, 1), 5), at(four(0xffffffff), 5)}, {at(six(0, 0), 5), at(four(0xffffffff), 5)}, {at(four(1), 6), at(six(six2001, 1), 5)}, {at(six(six2001, 1), 5), at(six(six2001, 0), 5)}, {at(six(six2001+1, 0), 5), at(six(six2001, top), 5)},
		{api.Peer{End: end(four(1), 81)}, api.Peer{End: end(four(1), 80)}}, {api.Peer{End: end(four(1), topPort)}, api.Peer{End: end(four(1), 1)}}, {api.Peer{End: end(four(2), 1)}, api.Peer{End: end(four(1), topPort)}},
	} {
		checkOrder(t, c.a, c.b)
	}
}

// Peers are put in order by the ticks and then by the ends, also where those are not valid.
func TestCr1YoungerOfAllTicksAndEnds(t *testing.T) {
	var row []api.Peer
	for _, n := range numbers() {
		for _, e := range ends() {
			row = append(row, api.Peer{End: e, Since: n})
		}
	}
	for i, a := range row {
		for k, b := range row {
			checkYounger(t, a, b, i > k)
		}
	}
}

func TestCr1NobodyIsYoungerThanItself(t *testing.T) {
	for _, n := range numbers() {
		for _, e := range ends() {
			a := api.Peer{End: e, Since: n}
			b := api.Peer{End: e, In: true, Since: n, Score: api.Score{Points: 1, At: 2}, Ping: 3, Work: 4}
			checkYounger(t, a, a, false)
			checkYounger(t, a, b, false)
			checkYounger(t, b, a, false)
		}
	}
}

// versions are a peer with other values where nobody looks here.
func versions(p api.Peer) []api.Peer {
	var l []api.Peer
	for _, n := range numbers() {
		a, b, c, d, e := p, p, p, p, p
		a.Score.Points, b.Score.At, c.Ping, d.Work, e.In = n, n, n, n, true
		l = append(l, a, b, c, d, e)
	}
	return l
}

func TestCr1YoungerGoesByTicksAndEndsOnly(t *testing.T) {
	for _, a := range versions(in(1, 1, 6)) {
		for _, b := range versions(in(1, 2, 5)) {
			checkOrder(t, a, b)
		}
		for _, b := range versions(in(1, 0, 6)) {
			checkOrder(t, a, b)
		}
	}
}

func TestCr1CrowdByHand(t *testing.T) {
	l := []api.Peer{
		in(1, 1, 5), in(2, 1, 20), in(1, 0xffff, 9), at(six(six2001, 1), 3), at(six(six2001+1, 2), 4), in(1, 1, 7), at(six(six2001+1<<32, 1), 3), at(four(1<<32), 1), at(six(0, 0xffff0a010001), 1), at(four(0), 1), at(six(0, 0), 1), in(2, 0, 1),
	}
	for i, want := range []int{3, 2, 3, 2, 2, 3, 1, 2, 2, 1, 1, 2} {
		checkCrowd(t, l, i, want)
	}
}

func TestCr1CrowdOfNoIndex(t *testing.T) {
	state := uint64(1)
	for _, l := range [][]api.Peer{nil, {}, {{}}, {in(1, 1, 5)}, {in(1, 1, 5), in(1, 2, 5), in(1, 3, 5)}, some(20, &state)} {
		for _, i := range append(numbers(), len(l), len(l)+1, -len(l), -len(l)-1, 1<<16, 1<<62) {
			if i < 0 || i >= len(l) {
				checkCrowd(t, l, i, 0)
			}
		}
	}
}

// Whoever stands in the list once more counts once more.
func TestCr1CrowdOfEqualPeers(t *testing.T) {
	for _, p := range []api.Peer{{}, in(1, 1, 5), at(six(six2001, 1), 5), at(four(1<<32), 5)} {
		for _, size := range []int{1, 2, 3, 12, 13, 255, 256, 300} {
			l := append(slices.Repeat([]api.Peer{p}, size), in(9, 9, 5))
			for _, i := range []int{0, size / 2, size - 1} {
				checkCrowd(t, l, i, size)
			}
			checkCrowd(t, l, size, 1)
		}
	}
}

// The first 16 bits of an IPv4 address decide, and the first 32 of an IPv6 address.
func TestCr1CrowdOfEachBit(t *testing.T) {
	for _, lo := range []uint64{0, 0x0a010001, 0x55555555, 0xffffffff} {
		for bit := range 32 {
			l := []api.Peer{at(four(lo), 1), at(four(lo^1<<bit), 1)}
			want := 2
			if bit >= 16 {
				want = 1
			}
			checkCrowd(t, l, 0, want)
			checkCrowd(t, l, 1, want)
		}
	}
	for _, hi := range []uint64{six2001, 0x5555555555555555, top} {
		for bit := range 64 {
			l := []api.Peer{at(six(hi, 7), 1), at(six(hi^1<<bit, 7), 1), at(six(hi, 7^1<<bit), 1)}
			first, second := 3, 3
			if bit >= 32 {
				first, second = 2, 1
			}
			checkCrowd(t, l, 0, first)
			checkCrowd(t, l, 1, second)
			checkCrowd(t, l, 2, first)
		}
	}
}

// Addresses of both kinds are in different groups, though their bits and those of the zero subnet are the same.
func TestCr1CrowdOfBothKinds(t *testing.T) {
	l := []api.Peer{at(four(0), 1), at(six(0, 0), 1), at(api.Addr{Hi: 1}, 1), at(four(0xffff), 1), at(six(0, 0xffff), 1), at(six(0xffffffff, top), 1), at(four(0x10000), 1), at(six(1<<32, 0), 1)}
	for i, want := range []int{2, 3, 1, 2, 3, 3, 1, 1} {
		checkCrowd(t, l, i, want)
	}
	checkPick(t, l, 5)
}

// All peers whose address is not valid form one group, which no valid address is in.
func TestCr1CrowdOfWrongAddresses(t *testing.T) {
	var l []api.Peer
	for i, a := range wrong() {
		l = append(l, at(a, 5), in(uint64(i), 1, 9), at(six(uint64(i)<<32, 1), 9))
	}
	for i := range l {
		want := 1
		if i%3 == 0 {
			want = len(wrong())
		}
		checkCrowd(t, l, i, want)
	}
	for _, a := range wrong() {
		for _, b := range wrong() {
			checkCrowd(t, []api.Peer{at(a, 1), at(b, 2)}, 0, 2)
			checkCrowd(t, []api.Peer{at(a, 1), at(b, 2)}, 1, 2)
		}
		for _, e := range ends() {
			checkList(t, []api.Peer{{End: e}, at(a, 1), at(four(0), 0)})
		}
	}
}

// A port that is not valid changes nothing in the group, and where else a peer differs does not matter either.
func TestCr1CrowdGoesByTheAddressOnly(t *testing.T) {
	var l []api.Peer
	for _, port := range append(numbers(), 1, 80, topPort, topPort+1) {
		l = append(l, api.Peer{End: end(four(0x0a010001), port)})
	}
	l = append(l, versions(in(1, 2, 5))...)
	for i := range l {
		l[i].Since = numbers()[i%len(numbers())]
	}
	for i := range l {
		checkCrowd(t, l, i, len(l))
		checkCrowd(t, append(slices.Clone(l), in(2, 1, 5)), i, len(l))
	}
}

func TestCr1ExampleOfTheChapter(t *testing.T) {
	l := []api.Peer{in(1, 1, 5), in(1, 2, 9), in(2, 1, 20)}
	checkPick(t, l, 1)
	checkPick(t, []api.Peer{l[2], l[1], l[0]}, 1)
	checkPick(t, []api.Peer{l[1], l[2], l[0]}, 0)
}

func TestCr1PickByHand(t *testing.T) {
	for _, c := range []struct {
		l    []api.Peer
		want int
	}{
		{nil, -1}, {[]api.Peer{}, -1}, {[]api.Peer{{}}, 0}, {[]api.Peer{in(1, 1, 5)}, 0}, {[]api.Peer{in(1, 1, math.MinInt)}, 0}, {[]api.Peer{at(four(1<<32), -1)}, 0},
		// One group: the tick decides, then the end.
		{[]api.Peer{in(1, 1, 5), in(1, 2, 6)}, 1}, {[]api.Peer{in(1, 1, 6), in(1, 2, 5)}, 0}, {[]api.Peer{in(1, 1, 5), in(1, 2, 5)}, 1}, {[]api.Peer{in(1, 2, 5), in(1, 1, 5)}, 0}, {[]api.Peer{in(1, 3, 5), in(1, 1, 9), in(1, 2, 9)}, 2},
		// Groups of one size: the youngest of all of them.
		{[]api.Peer{in(1, 1, 5), in(2, 1, 6)}, 1}, {[]api.Peer{in(1, 1, 6), in(2, 1, 5)}, 0}, {[]api.Peer{in(2, 1, 5), in(1, 1, 5)}, 0}, {[]api.Peer{in(1, 1, 3), in(2, 1, 9), in(2, 2, 1), in(1, 2, 8)}, 1}, {[]api.Peer{in(1, 1, 3), in(2, 1, 1), in(2, 2, 9), in(1, 2, 10), in(3, 1, 99)}, 3},
		// A greater group: however young the others are, and wherever they stand.
		{[]api.Peer{in(1, 1, 1), in(2, 1, 90), in(1, 2, 0)}, 0}, {[]api.Peer{in(2, 1, 90), in(1, 1, 0), in(1, 2, 1), in(2, 2, 80), in(1, 3, -1)}, 2}, {[]api.Peer{in(9, 9, topTick), in(1, 1, 0), in(1, 1, 0)}, 1}, {[]api.Peer{in(1, 1, 0), in(1, 2, 0), in(9, 9, topTick)}, 1},
		{[]api.Peer{in(3, 1, 50), in(3, 2, 51), in(1, 1, 3), in(1, 2, 2), in(1, 3, 1), in(2, 1, 60), in(2, 2, 61)}, 2},
		// Both kinds of addresses, and such as are not valid.
		{[]api.Peer{at(six(six2001, 1), 5), at(six(six2001+9, 1), 6), in(1, 1, 7)}, 1}, {[]api.Peer{at(six(six2001, 1), 5), in(1, 1, 7), in(1, 2, 7)}, 2}, {[]api.Peer{at(six(six2001, 1), 5), in(1, 1, 5)}, 0}, {[]api.Peer{in(1, 1, 50), at(four(1<<32), 1), at(api.Addr{Hi: 1}, 2), at(six(0, 0xffff0a010001), 1)}, 2}, {[]api.Peer{at(four(0), 50), at(four(1<<32), 1), at(four(1<<33), 0)}, 1},
	} {
		checkPick(t, c.l, c.want)
	}
}

// Of equal ones the first is picked: where neither the tick nor the end differs, whatever else does.
func TestCr1PickOfEqualPeers(t *testing.T) {
	for _, size := range []int{1, 2, 3, 13, 50, 300} {
		for _, p := range []api.Peer{{}, in(1, 1, 5), at(six(six2001, 1), -5), at(four(1<<32), topTick)} {
			l := slices.Repeat([]api.Peer{p}, size)
			for i := range l {
				l[i].In, l[i].Score, l[i].Ping, l[i].Work = i%2 == 0, api.Score{Points: i, At: i % 7}, i%5, i
			}
			checkPick(t, l, 0)
			checkPick(t, append([]api.Peer{in(3, 1, math.MinInt)}, append(slices.Clone(l), in(4, 1, math.MinInt))...), 1)
		}
	}
	checkPick(t, []api.Peer{in(1, 1, 5), in(1, 2, 7), in(2, 1, 99), in(1, 2, 7), in(1, 1, 5)}, 1)
	checkPick(t, []api.Peer{in(1, 1, 7), in(1, 2, 7), in(1, 1, 7), in(1, 2, 7)}, 1)
}

// What is not asked for changes nothing: whether it came, its score, its latency and use.
func TestCr1PickGoesByGroupsTicksAndEndsOnly(t *testing.T) {
	l := []api.Peer{in(1, 1, 5), in(2, 1, 20), in(1, 2, 9), in(1, 3, 9), in(2, 2, 21)}
	for i, p := range l {
		for _, other := range versions(p) {
			m := slices.Clone(l)
			m[i] = other
			checkPick(t, m, 3)
		}
	}
}

func TestCr1PickOfExtremeTicks(t *testing.T) {
	for _, a := range numbers() {
		for _, b := range numbers() {
			checkList(t, []api.Peer{in(1, 1, a), in(1, 2, b)})
			checkList(t, []api.Peer{in(1, 2, a), in(1, 1, b)})
			checkList(t, []api.Peer{in(1, 1, a), in(2, 1, b)})
			checkList(t, []api.Peer{in(1, 1, 3), in(1, 2, a), in(2, 1, b)})
			checkList(t, []api.Peer{in(2, 1, a), in(1, 1, b), in(2, 2, b), in(1, 2, a)})
		}
	}
}

// few are peers of some groups, some of which are equal, share an end, or are not valid.
func few() []api.Peer {
	twin := in(1, 1, 5)
	twin.In, twin.Work = true, 9
	return []api.Peer{{}, in(1, 1, 5), twin, in(1, 1, 6), in(1, 2, 5), in(2, 1, 5), at(six(six2001, 1), 7), at(four(1<<32), 7), at(six(0, 0xffff0a010001), 4)}
}

// eachFew hands out all lists of at most so many of the few.
func eachFew(most int, see func([]api.Peer)) {
	var more func(l []api.Peer)
	more = func(l []api.Peer) {
		see(l)
		if len(l) == most {
			return
		}
		for _, p := range few() {
			more(append(slices.Clone(l), p))
		}
	}
	more(nil)
}

func TestCr1AllShortLists(t *testing.T) {
	eachFew(5, func(l []api.Peer) { checkList(t, l) })
}

func TestCr1RandomLists(t *testing.T) {
	state := uint64(2)
	for size := range 60 {
		for range 10 {
			checkList(t, some(size, &state))
			checkList(t, apart(size, &state))
		}
	}
}

// As many peers as there may be slots: one group alone, groups of one each, and groups of which one has one more than the others.
func TestCr1LongLists(t *testing.T) {
	const size = 65535
	one, each, pairs := make([]api.Peer, size), make([]api.Peer, size), make([]api.Peer, size)
	for i := range size {
		n := uint64(i)
		one[i] = in(1, n, i*7919%size)
		each[i] = at(four(n<<16), i*7919%size)
		pairs[i] = at(six(n/2<<32, n), topTick-i)
	}
	pairs[size-1] = at(six(7<<32, 99), 0)
	last := func(p api.Peer) bool { return p.Since == size-1 }
	for _, c := range []struct {
		l           []api.Peer
		pick, crowd int
	}{
		{one, slices.IndexFunc(one, last), size}, {each, slices.IndexFunc(each, last), 1}, {pairs, 14, 3},
	} {
		checkPick(t, c.l, c.pick)
		checkCrowd(t, c.l, c.pick, c.crowd)
		checkCrowd(t, c.l, size-1, c.crowd)
		checkCrowd(t, c.l, size, 0)
	}
	checkCrowd(t, pairs, 13, 2)
	checkCrowd(t, pairs, size-2, 2)
}

// Many goroutines may ask about one list at once, and about another one each.
func TestCr1ManyGoroutines(t *testing.T) {
	state := uint64(3)
	l := some(200, &state)
	var all sync.WaitGroup
	for k := range 16 {
		own := some(40+k, &state)
		all.Go(func() {
			for _, m := range [][]api.Peer{l, own} {
				if got := crowd.Pick(m); got != youngest(m) {
					t.Errorf("Pick of %d peers is %d", len(m), got)
				}
				if got := crowd.Crowd(m, k); got != mates(m, k) {
					t.Errorf("Crowd of %d of %d peers is %d", k, len(m), got)
				}
			}
		})
	}
	all.Wait()
}

// Again and again the one that is picked leaves: each time it is of a group than which none has more, and is the youngest one of it.
func TestCr2TheGreatestGroupGivesItsYoungest(t *testing.T) {
	state := uint64(4)
	for size := range 40 {
		for l := apart(size, &state); len(l) > 0; {
			k := crowd.Pick(l)
			for i, p := range l {
				if crowd.Crowd(l, i) > crowd.Crowd(l, k) {
					t.Fatalf("of %+v the one with the index %d is picked, whose group is smaller than that of %d", l, k, i)
				}
				if together(p.End.Addr, l[k].End.Addr) && crowd.Younger(p, l[k]) {
					t.Fatalf("of %+v the one with the index %d is picked, and %d of its group is younger", l, k, i)
				}
			}
			l = slices.Delete(l, k, k+1)
		}
	}
}

// As long as a group has more peers than another one, the other one's stay, whatever their ticks.
func TestCr2SmallerGroupsWait(t *testing.T) {
	for _, young := range []int{math.MinInt, -1, 0, 5, topTick, math.MaxInt} {
		var l []api.Peer
		for i := range 3 {
			l = append(l, in(2, uint64(i), young))
		}
		for i := range 9 {
			l = append(l, in(1, uint64(i), i))
		}
		for size := 9; size > 3; size-- {
			k := crowd.Pick(l)
			if l[k] != in(1, uint64(size-1), size-1) {
				t.Fatalf("%+v is picked of %+v", l[k], l)
			}
			l = slices.Delete(l, k, k+1)
		}
		checkPick(t, l, youngest(l))
	}
}

// permuted hands out all orders of a list.
func permuted(l []api.Peer, see func([]api.Peer)) {
	var more func(k int)
	more = func(k int) {
		if k == len(l) {
			see(l)
			return
		}
		for i := k; i < len(l); i++ {
			l[k], l[i] = l[i], l[k]
			more(k + 1)
			l[k], l[i] = l[i], l[k]
		}
	}
	more(0)
}

func TestCr2AllOrdersOfShortLists(t *testing.T) {
	for _, l := range [][]api.Peer{
		{in(1, 1, 5), in(1, 2, 9), in(2, 1, 20), in(1, 3, 9), in(2, 2, 20), in(3, 1, 30), in(3, 2, 30)},
		{in(1, 1, 5), in(1, 2, 5), in(2, 1, 5), in(2, 2, 5), at(six(six2001, 1), 5), at(six(six2001, 2), 5)},
		{at(four(1<<32), 5), at(six(0, 0xffff0a010001), 4), in(1, 1, 5), in(1, 2, 6), in(2, 1, 9), {}, at(six(six2001, 2), 5)},
	} {
		want := l[youngest(l)]
		permuted(slices.Clone(l), func(m []api.Peer) {
			if k := crowd.Pick(m); m[k] != want {
				t.Fatalf("%+v is picked of %+v, and %+v of %+v", want, l, m[k], m)
			}
		})
	}
}

// The one that is picked, and how many are in a group, do not depend on where a peer stands in its list.
func TestCr2ListsInAnyOrder(t *testing.T) {
	state := uint64(5)
	for size := 1; size < 60; size++ {
		l := apart(size, &state)
		want, sizes := l[crowd.Pick(l)], map[api.End]int{}
		for i, p := range l {
			sizes[p.End] = crowd.Crowd(l, i)
		}
		for range 10 {
			m := shuffled(l, &state)
			if k := crowd.Pick(m); m[k] != want {
				t.Fatalf("%+v is picked of %+v, and %+v of %+v", want, l, m[k], m)
			}
			for i, p := range m {
				checkCrowd(t, m, i, sizes[p.End])
			}
		}
	}
}
