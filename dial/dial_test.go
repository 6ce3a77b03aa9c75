package dial_test

import (
	"cmp"
	"encoding/binary"
	"math"
	"math/rand"
	"net/netip"
	"slices"
	"strconv"
	"strings"
	"sync"
	"testing"

	"doorman/api"
	"doorman/dial"
)

const (
	idle     = 1
	flying   = 2
	up       = 3
	topTick  = 1 << 40
	topFails = 1000
	topBook  = 1024
	topBans  = 1024
	topPeers = 65535
	top      = math.MaxUint64
	six2001  = 0x20010db8 << 32
)

func four(n uint64) api.Addr { return api.Addr{Lo: n} }

func six(hi, lo uint64) api.Addr { return api.Addr{V6: true, Hi: hi, Lo: lo} }

func end(a api.Addr) api.End { return api.End{Addr: a, Port: 80} }

func in(a api.Addr) api.Peer { return api.Peer{End: end(a), In: true} }

func out(a api.Addr) api.Peer { return api.Peer{End: end(a)} }

func known(a api.Addr, state, next int) api.Entry {
	return api.Entry{End: end(a), State: state, Next: next}
}

func waits(a api.Addr, next int) api.Entry { return known(a, idle, next) }

func banned(a api.Addr, bits, until int) api.Ban {
	return api.Ban{Net: api.Net{Addr: a, Bits: bits}, Until: until}
}

// address is that of a text; one of IPv6 that stands for one of IPv4 stays there, where it is not valid.
func address(s string) api.Addr {
	a := netip.MustParseAddr(s)
	whole := a.As16()
	hi, lo := binary.BigEndian.Uint64(whole[:8]), binary.BigEndian.Uint64(whole[8:])
	if a.Is4() {
		return four(lo & math.MaxUint32)
	}
	return six(hi, lo)
}

// number is the one behind the mark of a text, and what is ahead of it; 0 if there is none.
func number(s, mark string) (string, int) {
	text, digits, found := strings.Cut(s, mark)
	if !found {
		return text, 0
	}
	n, err := strconv.Atoi(digits)
	if err != nil {
		panic(s)
	}
	return text, n
}

// read is the view of a text as "in=1.2.3.4 out=5.6.7.8 idle=1.1.1.1@5 fly=2.2.2.2 up=::1 ban=10.0.0.0/8@50", in which a port may stand behind a dash.
func read(s string) dial.View {
	var v dial.View
	for _, x := range strings.Fields(s) {
		name, text, _ := strings.Cut(x, "=")
		text, tick := number(text, "@")
		if name == "ban" {
			text, bits := number(text, "/")
			v.Bans = append(v.Bans, banned(address(text), bits, tick))
			continue
		}
		e := ending(text)
		switch name {
		case "in":
			v.Peers = append(v.Peers, api.Peer{End: e, In: true})
		case "out":
			v.Peers = append(v.Peers, api.Peer{End: e})
		case "idle":
			v.Book = append(v.Book, api.Entry{End: e, State: idle, Next: tick})
		case "fly":
			v.Book = append(v.Book, api.Entry{End: e, State: flying, Next: tick})
		case "up":
			v.Book = append(v.Book, api.Entry{End: e, State: up, Next: tick})
		default:
			panic(s)
		}
	}
	return v
}

// ending is the end of a text as "1.2.3.4-81"; its port is 80 if none is written.
func ending(s string) api.End {
	text, port := number(s, "-")
	if port == 0 {
		port = 80
	}
	return api.End{Addr: address(text), Port: port}
}

func validAddress(a api.Addr) bool {
	if a.V6 {
		return a.Hi != 0 || a.Lo>>32 != 0xffff
	}
	return a.Hi == 0 && a.Lo>>32 == 0
}

// valid tells whether an entry may be.
func valid(e api.Entry) bool {
	numbers := e.Next == min(max(e.Next, 0), topTick) && e.Fails == min(max(e.Fails, 0), topFails) && e.End.Port == min(max(e.End.Port, 1), 65535)
	return numbers && validAddress(e.End.Addr) && (e.State == idle || e.State == flying || e.State == up)
}

// together tells whether two valid addresses are in one group.
func together(a, b api.Addr) bool {
	switch {
	case !validAddress(a) || !validAddress(b) || a.V6 != b.V6:
		return false
	case a.V6:
		return a.Hi>>32 == b.Hi>>32
	}
	return a.Lo>>16 == b.Lo>>16
}

// bit is one of an address, counted from the first one on.
func bit(a api.Addr, i int) uint64 {
	switch {
	case !a.V6:
		return a.Lo >> (31 - i) & 1
	case i < 64:
		return a.Hi >> (63 - i) & 1
	}
	return a.Lo >> (127 - i) & 1
}

// covers tells whether a valid address is in a subnet; a subnet that is not valid has none.
func covers(n api.Net, a api.Addr) bool {
	size := 32
	if n.Addr.V6 {
		size = 128
	}
	if !validAddress(n.Addr) || n.Addr.V6 != a.V6 || n.Bits < 0 || n.Bits > size {
		return false
	}
	for i := range size {
		if i < n.Bits && bit(n.Addr, i) != bit(a, i) || i >= n.Bits && bit(n.Addr, i) != 0 {
			return false
		}
	}
	return true
}

// may is what May must return.
func may(v dial.View, e api.Entry, now int) bool {
	if !valid(e) || e.State != idle || now < e.Next {
		return false
	}
	for _, b := range v.Bans {
		if covers(b.Net, e.End.Addr) && now < b.Until {
			return false
		}
	}
	for _, p := range v.Peers {
		if p.End == e.End || !p.In && together(p.End.Addr, e.End.Addr) {
			return false
		}
	}
	for _, x := range v.Book {
		if x.State == flying && together(x.End.Addr, e.End.Addr) {
			return false
		}
	}
	return true
}

// order compares ends by their fields: IPv4 first.
func order(a, b api.End) int {
	kind := map[bool]int{false: 4, true: 6}
	return cmp.Or(cmp.Compare(kind[a.Addr.V6], kind[b.Addr.V6]), cmp.Compare(a.Addr.Hi, b.Addr.Hi), cmp.Compare(a.Addr.Lo, b.Addr.Lo), cmp.Compare(a.Port, b.Port))
}

// pick is what Pick must return: whoever may be dialled, if nobody who may is better.
func pick(v dial.View, now int) (api.End, bool) {
	var best api.Entry
	found := false
	for _, e := range v.Book {
		better := !found || e.Next < best.Next || e.Next == best.Next && order(e.End, best.End) < 0
		if better && may(v, e, now) {
			best, found = e, true
		}
	}
	return best.End, found
}

// when is what When must return: the first one of the ticks that are to come.
func when(v dial.View, now int) int {
	var ticks []int
	for _, e := range v.Book {
		if valid(e) && e.State == idle && e.Next > now {
			ticks = append(ticks, e.Next)
		}
	}
	if len(ticks) == 0 {
		return 0
	}
	slices.Sort(ticks)
	return ticks[0]
}

func cloned(v dial.View) dial.View {
	return dial.View{Book: slices.Clone(v.Book), Peers: slices.Clone(v.Peers), Bans: slices.Clone(v.Bans)}
}

// joined is all that some views have, one behind the other.
func joined(l ...dial.View) dial.View {
	var v dial.View
	for _, x := range l {
		v.Book = append(v.Book, x.Book...)
		v.Peers = append(v.Peers, x.Peers...)
		v.Bans = append(v.Bans, x.Bans...)
	}
	return v
}

// within hands in a view whose lists have others behind them, and asks that nothing is written to them.
func within(t *testing.T, v dial.View, ask func(dial.View)) {
	t.Helper()
	long := joined(v, dial.View{
		Book:  []api.Entry{waits(four(0), 0), known(six(98<<32, 1), flying, 0), waits(four(1), 0)},
		Peers: []api.Peer{out(four(0x63630001)), out(six(99<<32, 1))},
		Bans:  []api.Ban{banned(four(0), 0, topTick), banned(six(0, 0), 0, topTick)},
	})
	for _, e := range v.Book[:min(len(v.Book), 3)] {
		long.Peers = append(long.Peers, api.Peer{End: e.End})
	}
	before := cloned(long)
	ask(dial.View{Book: long.Book[:len(v.Book)], Peers: long.Peers[:len(v.Peers)], Bans: long.Bans[:len(v.Bans)]})
	if !slices.Equal(long.Book, before.Book) || !slices.Equal(long.Peers, before.Peers) || !slices.Equal(long.Bans, before.Bans) {
		t.Fatalf("%+v was changed to %+v", before, long)
	}
}

func checkMay(t *testing.T, v dial.View, e api.Entry, now int, want bool) {
	t.Helper()
	within(t, v, func(v dial.View) {
		if got := dial.May(v, e, now); got != want {
			t.Fatalf("May of %+v, %+v and %d is %v", v, e, now, got)
		}
	})
}

func checkPick(t *testing.T, v dial.View, now int, want api.End, found bool) {
	t.Helper()
	within(t, v, func(v dial.View) {
		if got, ok := dial.Pick(v, now); got != want || ok != found {
			t.Fatalf("Pick of %+v and %d is %+v, %v, not %+v, %v", v, now, got, ok, want, found)
		}
	})
}

func checkWhen(t *testing.T, v dial.View, now, want int) {
	t.Helper()
	within(t, v, func(v dial.View) {
		if got := dial.When(v, now); got != want {
			t.Fatalf("When of %+v and %d is %d, not %d", v, now, got, want)
		}
	})
}

// check asks about each entry of the book, about some others, who is picked, and when the next one is due.
func check(t *testing.T, v dial.View, now int, others ...api.Entry) {
	t.Helper()
	for _, e := range slices.Concat(v.Book, others) {
		checkMay(t, v, e, now, may(v, e, now))
	}
	best, found := pick(v, now)
	checkPick(t, v, now, best, found)
	checkWhen(t, v, now, when(v, now))
}

// alone asks the same of a book of one entry, among peers and bans.
func alone(t *testing.T, v dial.View, e api.Entry, now int, want bool) {
	t.Helper()
	checkMay(t, v, e, now, want)
	one := joined(v, dial.View{Book: []api.Entry{e}})
	checkMay(t, one, e, now, want)
	if want {
		checkPick(t, one, now, e.End, true)
	} else {
		checkPick(t, one, now, api.End{}, false)
	}
}

// addresses are valid ones: limits of groups and those beside them, the limits of both kinds, and some of both kinds with the same fields or the same first bits.
func addresses() []api.Addr {
	return []api.Addr{
		four(0), four(1), four(0xffff), four(0x10000), four(0x0a00ffff), four(0x0a010000), four(0x0a010203), four(0x0a01ffff), four(0x0a020000), four(0x7fffffff), four(0x80000000), four(0xffff0000), four(0xffffffff),
		six(0, 0), six(0, 1), six(0, 0x0a010203), six(0, 0xfffe0a010203), six(0, top), six(1, 0xffff0a010203), six(0xffffffff, top), six(1<<32, 0), six(six2001-1, top), six(six2001, 0), six(six2001, 1), six(six2001|0xffffffff, top), six(six2001+1<<32, 0), six(1<<63, 0), six(top, top),
	}
}

// wrong are addresses that are not valid; some have the fields or the first bits of valid ones.
func wrong() []api.Addr {
	return []api.Addr{four(1 << 32), four(1<<32 | 0x0a010203), four(top), {Hi: 1}, {Hi: 1, Lo: 0x0a010203}, {Hi: six2001}, {Hi: top, Lo: top}, six(0, 0xffff00000000), six(0, 0xffff0a010203), six(0, 0xffffffffffff)}
}

// ticks are those at the limits, those beside them, and numbers that a smaller number would mistake for such.
func ticks() []int {
	return []int{math.MinInt, math.MinInt + 1, -1 << 32, -2, -1, 0, 1, 2, 3, 5, 1 << 31, 1<<32 - 1, 1 << 32, 1<<32 + 1, topTick - 1, topTick, topTick + 1, 1<<62 + 2, math.MaxInt - 1, math.MaxInt}
}

// odd are numbers that are no states, among them some with the lower bits of one.
func odd() []int {
	return []int{math.MinInt, math.MinInt + 1, -1 << 32, -3, -2, -1, 0, 4, 5, 7, 255, 256, 257, 258, 259, 1<<16 + 1, 1<<31 + 1, 1 << 32, 1<<32 + 1, 1<<32 + 2, 1<<32 + 3, 1<<62 + 1, math.MaxInt - 1, math.MaxInt}
}

func TestDi1LimitsAreTheGivenOnes(t *testing.T) {
	if api.Idle != idle || api.Flying != flying || api.Up != up || api.MaxTick != topTick || api.MaxFails != topFails || api.MaxBook != topBook || api.MaxBans != topBans || api.MaxLimit != topPeers {
		t.Fatal("other states or limits than the document's")
	}
}

func TestDi1ExampleOfTheChapter(t *testing.T) {
	v := read("idle=10.1.0.1@5 idle=10.2.0.1@3 ban=10.2.0.1/32@100")
	checkPick(t, v, 9, ending("10.1.0.1"), true)
	v.Bans = nil
	checkPick(t, v, 9, ending("10.2.0.1"), true)
}

func TestDi1MayByHand(t *testing.T) {
	for _, c := range []struct {
		v, e string
		now  int
		want bool
	}{
		{"", "idle=10.1.2.3", 0, true}, {"", "idle=10.1.2.3@5", 5, true}, {"", "idle=10.1.2.3@5", 4, false}, {"", "idle=10.1.2.3@5", 6, true}, {"", "idle=10.1.2.3", -1, false}, {"", "fly=10.1.2.3", 5, false}, {"", "up=10.1.2.3", 5, false}, {"", "idle=2001:db8::1@7", 7, true}, {"", "idle=2001:db8::1@7", 6, false}, {"", "idle=::ffff:10.1.2.3", 5, false}, {"", "idle=10.1.2.3-65535", 5, true}, {"", "idle=10.1.2.3-65536", 5, false}, {"", "idle=10.1.2.3@1099511627776", topTick, true}, {"", "idle=10.1.2.3@1099511627777", math.MaxInt, false},
		// Bans.
		{"ban=10.1.2.3/32@6", "idle=10.1.2.3", 5, false}, {"ban=10.1.2.3/32@6", "idle=10.1.2.3", 6, true}, {"ban=10.1.2.3/32@6", "idle=10.1.2.4", 5, true}, {"ban=10.0.0.0/8@6", "idle=10.1.2.3", 5, false}, {"ban=10.0.0.0/8@6", "idle=11.1.2.3", 5, true}, {"ban=0.0.0.0/0@6", "idle=11.1.2.3", 5, false}, {"ban=0.0.0.0/0@6", "idle=::1", 5, true}, {"ban=::/0@6", "idle=::1", 5, false}, {"ban=::/0@6", "idle=0.0.0.1", 5, true}, {"ban=10.0.0.0/8@2 ban=10.1.0.0/16@9", "idle=10.1.2.3", 5, false}, {"ban=10.0.0.0/8@9 ban=10.1.0.0/16@2", "idle=10.1.2.3", 5, false}, {"ban=10.0.0.0/8@5 ban=10.1.0.0/16@2", "idle=10.1.2.3", 5, true}, {"ban=2001:db8::/33@9", "idle=2001:db8::1", 5, false}, {"ban=2001:db8::/33@9", "idle=2001:db8:8000::1", 5, true}, {"ban=10.1.2.3/33@9", "idle=10.1.2.3", 5, true}, {"ban=10.1.2.3/8@9", "idle=10.1.2.3", 5, true},
		// Peers: nobody of this end, and no outbound one of this group.
		{"in=10.1.2.3", "idle=10.1.2.3", 5, false}, {"out=10.1.2.3", "idle=10.1.2.3", 5, false}, {"in=10.1.2.3-81", "idle=10.1.2.3", 5, true}, {"out=10.1.2.3-81", "idle=10.1.2.3", 5, false}, {"in=10.1.2.4", "idle=10.1.2.3", 5, true}, {"out=10.1.2.4", "idle=10.1.2.3", 5, false}, {"out=10.1.255.255", "idle=10.1.0.0", 5, false}, {"out=10.2.2.3", "idle=10.1.2.3", 5, true}, {"in=10.2.2.3 in=10.1.2.3", "idle=10.1.2.3", 5, false}, {"out=2001:db8::1", "idle=2001:db8:ffff::1", 5, false}, {"out=2001:db8::1", "idle=2001:db9::1", 5, true}, {"in=2001:db8::1", "idle=2001:db8::1", 5, false}, {"out=::10.1.2.3", "idle=10.1.2.3", 5, true}, {"in=::10.1.2.3", "idle=10.1.2.3", 5, true}, {"out=::ffff:10.1.2.3 in=::ffff:10.1.2.3", "idle=10.1.2.3", 5, true},
		// The book: no flying one of this group.
		{"fly=10.1.2.3", "idle=10.1.2.3", 5, false}, {"fly=10.1.9.9", "idle=10.1.2.3", 5, false}, {"fly=10.2.9.9", "idle=10.1.2.3", 5, true}, {"up=10.1.2.3", "idle=10.1.2.3", 5, true}, {"idle=10.1.2.3", "idle=10.1.2.3", 5, true}, {"idle=10.1.9.9 up=10.1.8.8", "idle=10.1.2.3", 5, true}, {"fly=2001:db8:1::", "idle=2001:db8:2::", 5, false}, {"fly=2001:db7:1::", "idle=2001:db8:2::", 5, true}, {"fly=::ffff:10.1.2.3", "idle=10.1.2.3", 5, true}, {"idle=10.1.2.3@99", "idle=10.1.2.3", 5, true}, {"idle=10.1.2.3", "idle=10.1.2.3@99", 5, false},
		// All at once.
		{"in=10.2.0.1 out=10.3.0.1 fly=10.4.0.1 up=10.5.0.1 ban=10.6.0.0/16@9", "idle=10.1.2.3", 5, true}, {"in=10.2.0.1 out=10.3.0.1 fly=10.4.0.1 up=10.5.0.1 ban=10.6.0.0/16@9", "idle=10.6.2.3", 5, false}, {"in=10.2.0.1 out=10.3.0.1 fly=10.4.0.1 up=10.5.0.1 ban=10.6.0.0/16@9", "idle=10.4.2.3", 5, false}, {"in=10.2.0.1 out=10.3.0.1 fly=10.4.0.1 up=10.5.0.1 ban=10.6.0.0/16@9", "idle=10.5.0.1", 5, true}, {"out=10.1.0.1 fly=10.1.0.1 ban=10.1.0.0/16@9", "idle=10.1.0.1", 5, false},
	} {
		checkMay(t, read(c.v), read(c.e).Book[0], c.now, c.want)
	}
	checkMay(t, dial.View{}, api.Entry{}, 0, false)
	checkMay(t, dial.View{Book: []api.Entry{}, Peers: []api.Peer{}, Bans: []api.Ban{}}, waits(four(0), 0), 0, true)
	checkMay(t, dial.View{Book: []api.Entry{{}}, Bans: []api.Ban{{}}}, waits(four(0), 0), 0, true)
	checkMay(t, dial.View{Peers: []api.Peer{{}}}, waits(four(0), 0), 0, false)
}

func TestDi1PickByHand(t *testing.T) {
	for _, c := range []struct {
		v    string
		now  int
		want string
	}{
		{"", 5, ""}, {"out=10.1.2.3 in=10.2.2.3 ban=10.3.0.0/16@9", 5, ""}, {"idle=10.1.2.3", 5, "10.1.2.3"}, {"idle=10.1.2.3@5", 5, "10.1.2.3"}, {"idle=10.1.2.3@6", 5, ""}, {"fly=10.1.2.3", 5, ""}, {"up=10.1.2.3", 5, ""}, {"idle=::ffff:10.1.2.3", 5, ""}, {"idle=0.0.0.0", 0, "0.0.0.0"}, {"idle=::-1", 0, "::-1"},
		// Who waited longest.
		{"idle=10.1.0.1@5 idle=10.2.0.1@3", 9, "10.2.0.1"}, {"idle=10.1.0.1@3 idle=10.2.0.1@5", 9, "10.1.0.1"}, {"idle=10.2.0.1@3 idle=10.1.0.1@5", 9, "10.2.0.1"}, {"idle=10.2.0.1@5 idle=10.1.0.1@3", 9, "10.1.0.1"}, {"idle=10.1.0.1@5 idle=10.2.0.1@3", 4, "10.2.0.1"}, {"idle=10.1.0.1@5 idle=10.2.0.1@3", 2, ""}, {"idle=10.1.0.1@4 idle=10.2.0.1 idle=10.3.0.1@2 idle=10.4.0.1@1", 9, "10.2.0.1"}, {"idle=10.1.0.1@10 idle=10.2.0.1@9", 20, "10.2.0.1"}, {"idle=10.1.0.1@4294967296 idle=10.2.0.1@1", 1 << 40, "10.2.0.1"},
		// Of those who waited as long, whose end comes first: IPv4, then the least address, then the least port.
		{"idle=10.1.0.1@3 idle=10.2.0.1@3", 9, "10.1.0.1"}, {"idle=10.2.0.1@3 idle=10.1.0.1@3", 9, "10.1.0.1"}, {"idle=10.10.0.1@3 idle=10.9.0.1@3", 9, "10.9.0.1"}, {"idle=::1@3 idle=200.1.0.1@3", 9, "200.1.0.1"}, {"idle=200.1.0.1@3 idle=::1@3", 9, "200.1.0.1"}, {"idle=200.1.0.1@4 idle=::1@3", 9, "::1"}, {"idle=2001:db9::@3 idle=2001:db8:ffff::@3", 9, "2001:db8:ffff::"}, {"idle=2001:db8::2@3 idle=2001:db8::1@3", 9, "2001:db8::1"}, {"idle=10.1.0.1-90@3 idle=10.1.0.1-9@3", 9, "10.1.0.1-9"}, {"idle=10.1.0.1-9@3 idle=10.1.0.1-90@3", 9, "10.1.0.1-9"}, {"idle=10.1.0.2-9@3 idle=10.1.0.1-90@3", 9, "10.1.0.1-90"}, {"idle=10.1.0.1-9@4 idle=10.1.0.1-90@3", 9, "10.1.0.1-90"}, {"idle=10.1.0.1@3 idle=10.1.0.1@2", 9, "10.1.0.1"},
		// Whoever may not be dialled leaves it to the next one.
		{"idle=10.1.0.1@1 idle=10.2.0.1@2 idle=10.3.0.1@3 ban=10.1.0.1/32@10", 9, "10.2.0.1"}, {"idle=10.1.0.1@1 idle=10.2.0.1@2 idle=10.3.0.1@3 ban=10.1.0.1/32@9", 9, "10.1.0.1"}, {"idle=10.1.0.1@1 idle=10.2.0.1@2 idle=10.3.0.1@3 ban=10.0.0.0/8@10", 9, ""}, {"idle=10.1.0.1@1 idle=10.2.0.1@2 idle=10.3.0.1@3 in=10.1.0.1", 9, "10.2.0.1"}, {"idle=10.1.0.1@1 idle=10.2.0.1@2 idle=10.3.0.1@3 in=10.1.0.2", 9, "10.1.0.1"}, {"idle=10.1.0.1@1 idle=10.2.0.1@2 idle=10.3.0.1@3 out=10.1.0.2 in=10.2.0.1", 9, "10.3.0.1"}, {"idle=10.1.0.1@1 idle=10.1.0.2@2 idle=10.3.0.1@3 fly=10.1.0.3", 9, "10.3.0.1"}, {"idle=10.1.0.1@1 idle=10.2.0.2@2 fly=10.1.0.3 fly=10.2.0.1", 9, ""}, {"fly=10.1.0.1 up=10.2.0.1 idle=10.3.0.1@9", 9, "10.3.0.1"}, {"fly=10.1.0.1 up=10.2.0.1 idle=10.2.0.1@9", 9, "10.2.0.1"}, {"fly=10.1.0.1 idle=10.1.0.1", 9, ""}, {"idle=::ffff:1.1.1.1 idle=10.1.0.1-65536 idle=10.2.0.1@7", 9, "10.2.0.1"},
		{"idle=10.1.0.1@1 idle=10.2.0.1@2 idle=10.3.0.1@3 idle=10.4.0.1@4 idle=10.5.0.1@5 idle=10.6.0.1@6 ban=10.2.0.0/15@99 in=10.1.0.1 out=10.4.9.9", 6, "10.5.0.1"},
	} {
		var want api.End
		if c.want != "" {
			want = ending(c.want)
		}
		checkPick(t, read(c.v), c.now, want, c.want != "")
	}
	checkPick(t, dial.View{Book: []api.Entry{{}}}, 0, api.End{}, false)
	checkPick(t, dial.View{Book: []api.Entry{}, Peers: []api.Peer{}, Bans: []api.Ban{}}, 0, api.End{}, false)
}

func TestDi1WhenByHand(t *testing.T) {
	for _, c := range []struct {
		v         string
		now, want int
	}{
		{"", 0, 0}, {"", -1, 0}, {"idle=10.1.0.1@5", 4, 5}, {"idle=10.1.0.1@5", 5, 0}, {"idle=10.1.0.1@5", 6, 0}, {"idle=10.1.0.1@5", math.MinInt, 5}, {"idle=10.1.0.1", -1, 0}, {"idle=10.1.0.1", 0, 0}, {"idle=10.1.0.1 idle=10.2.0.1@3", -1, 0}, {"idle=10.1.0.1 idle=10.2.0.1@3", 0, 3},
		{"idle=10.1.0.1@5 idle=10.2.0.1@3", 2, 3}, {"idle=10.1.0.1@3 idle=10.2.0.1@5", 2, 3}, {"idle=10.1.0.1@3 idle=10.2.0.1@5", 3, 5}, {"idle=10.1.0.1@5 idle=10.2.0.1@3", 4, 5}, {"idle=10.1.0.1@5 idle=10.2.0.1@3", 5, 0}, {"idle=10.1.0.1@9 idle=10.2.0.1@7 idle=10.3.0.1@8 idle=10.4.0.1@6", 6, 7},
		// Only those who wait.
		{"fly=10.1.0.1@5", 2, 0}, {"up=10.1.0.1@5", 2, 0}, {"fly=10.1.0.1@5 up=10.2.0.1@4 idle=10.3.0.1@6", 2, 6}, {"idle=::ffff:10.1.0.1@5", 2, 0}, {"idle=10.1.0.1-65536@5 idle=10.1.0.1@6", 2, 6}, {"idle=10.1.0.1@1099511627776", 2, topTick}, {"idle=10.1.0.1@1099511627777", 2, 0}, {"idle=10.1.0.1@1099511627776", topTick - 1, topTick}, {"idle=10.1.0.1@1099511627776", topTick, 0}, {"idle=10.1.0.1@1099511627776", topTick + 1, 0},
		// Whether they may be dialled then does not matter.
		{"idle=10.1.0.1@5 idle=10.2.0.1@6 ban=10.1.0.0/16@99", 2, 5}, {"idle=10.1.0.1@5 idle=10.2.0.1@6 in=10.1.0.1", 2, 5}, {"idle=10.1.0.1@5 idle=10.2.0.1@6 out=10.1.9.9", 2, 5}, {"idle=10.1.0.1@5 idle=10.2.0.1@6 fly=10.1.9.9@3", 2, 5}, {"idle=10.1.0.1@1 idle=10.2.0.1@6", 2, 6},
	} {
		checkWhen(t, read(c.v), c.now, c.want)
	}
	checkWhen(t, dial.View{Book: []api.Entry{{}}}, 0, 0)
	checkWhen(t, dial.View{Book: []api.Entry{}}, 0, 0)
	checkWhen(t, dial.View{Book: []api.Entry{waits(four(1), 5), {End: end(four(2)), State: idle, Next: -5}}}, -9, 5)
}

// Each field of an entry decides, at its limits and beside them.
func TestDi1EachField(t *testing.T) {
	good := waits(four(0x0a010203), 5)
	for _, n := range slices.Concat(ticks(), odd(), []int{idle, flying, up, topFails - 1, topFails, topFails + 1, 65534, 65535, 65536, 1<<32 + 80}) {
		state, fails, port, next := good, good, good, good
		state.State, fails.Fails, port.End.Port, next.Next = n, n, n, n
		for _, now := range append(ticks(), 4, 6) {
			due := now >= 5
			alone(t, dial.View{}, state, now, due && n == 1)
			alone(t, dial.View{}, fails, now, due && n >= 0 && n <= 1000)
			alone(t, dial.View{}, port, now, due && n >= 1 && n <= 65535)
			alone(t, dial.View{}, next, now, n >= 0 && n <= 1<<40 && n <= now)
			for _, e := range []api.Entry{state, fails, port, next} {
				check(t, dial.View{Book: []api.Entry{e}}, now)
				check(t, dial.View{Book: []api.Entry{waits(four(7), 6), e, waits(four(8<<16), 3)}}, now)
			}
		}
	}
}

func TestDi1EachAddress(t *testing.T) {
	for _, a := range slices.Concat(addresses(), wrong()) {
		alone(t, dial.View{}, waits(a, 3), 3, validAddress(a))
		check(t, dial.View{Book: []api.Entry{waits(a, 9)}}, 3)
		for _, b := range slices.Concat(addresses(), wrong()) {
			apart := validAddress(b) && !together(a, b)
			alone(t, dial.View{Peers: []api.Peer{out(a)}}, waits(b, 3), 3, apart)
			alone(t, dial.View{Book: []api.Entry{known(a, flying, 3)}}, waits(b, 3), 3, apart)
			alone(t, dial.View{Book: []api.Entry{known(a, up, 3)}}, waits(b, 3), 3, validAddress(b))
			alone(t, dial.View{Peers: []api.Peer{in(a)}}, waits(b, 3), 3, validAddress(b) && a != b)
			whole, short := banned(a, 128, 9), banned(a, 32, 9)
			alone(t, dial.View{Bans: []api.Ban{whole, short}}, waits(b, 3), 3, validAddress(b) && !covers(whole.Net, b) && !covers(short.Net, b))
			for _, v := range []dial.View{{Book: []api.Entry{waits(a, 3), waits(b, 3)}}, {Book: []api.Entry{waits(a, 2), waits(b, 3)}}, {Book: []api.Entry{waits(a, 3), waits(b, 2)}}, {Book: []api.Entry{waits(a, 3), known(b, flying, 2)}}, {Book: []api.Entry{known(a, up, 3), waits(b, 2)}}} {
				check(t, v, 3)
				check(t, v, 2)
			}
		}
	}
}

// The nearest tick at which one is due, and one that was due longest, by each pair of ticks.
func TestDi1EachPairOfTicks(t *testing.T) {
	a, b := four(0x0a010203), four(0x0a020304)
	for _, x := range ticks() {
		for _, y := range ticks() {
			v := dial.View{Book: []api.Entry{waits(a, x), waits(b, y), known(four(1), up, 4)}}
			for _, now := range append(ticks(), 4) {
				check(t, v, now)
			}
		}
	}
}

// A ban holds up to its tick, and a longer one of a smaller or greater subnet beyond it.
func TestDi1EachTickOfABan(t *testing.T) {
	a := four(0x0a010203)
	for _, until := range ticks() {
		one := dial.View{Bans: []api.Ban{banned(a, 32, until)}}
		for _, now := range append(ticks(), 4) {
			alone(t, one, waits(a, 0), now, now >= 0 && now >= until)
			alone(t, one, waits(four(0x0a010204), 0), now, now >= 0)
			for _, other := range ticks() {
				two := joined(one, dial.View{Bans: []api.Ban{banned(four(0x0a000000), 8, other)}})
				checkMay(t, two, waits(a, 0), now, now >= 0 && now >= until && now >= other)
			}
		}
	}
}

// Each subnet of an address, and each that is beside it.
func TestDi1EachSubnet(t *testing.T) {
	for _, a := range []api.Addr{four(0x0a010203), four(0), four(0xffffffff), six(six2001|0x1234, 0x5678), six(0, 0), six(top, top)} {
		for bits := -1; bits <= 129; bits++ {
			for _, n := range []api.Net{{Addr: a, Bits: bits}, first(a, bits), beside(a, bits)} {
				v := dial.View{Bans: []api.Ban{{Net: n, Until: 9}}}
				alone(t, v, waits(a, 3), 3, !covers(n, a))
				alone(t, v, waits(a, 3), 9, true)
			}
		}
	}
}

// first is the subnet of an address.
func first(a api.Addr, bits int) api.Net {
	n := api.Net{Addr: a, Bits: bits}
	if !a.V6 {
		n.Addr.Lo &^= math.MaxUint32 >> min(max(bits, 0), 32)
		return n
	}
	n.Addr.Hi &^= top >> min(max(bits, 0), 64)
	n.Addr.Lo &^= top >> min(max(bits-64, 0), 64)
	return n
}

// beside is the subnet that differs from an address's in its last bit.
func beside(a api.Addr, bits int) api.Net {
	n := first(a, bits)
	switch {
	case bits < 1:
	case !a.V6 && bits <= 32:
		n.Addr.Lo ^= 1 << (32 - bits)
	case a.V6 && bits <= 64:
		n.Addr.Hi ^= 1 << (64 - bits)
	case a.V6 && bits <= 128:
		n.Addr.Lo ^= 1 << (128 - bits)
	}
	return n
}

// A peer is of an entry's end only if all of it is equal, each bit of it.
func TestDi1EachBitOfAnEnd(t *testing.T) {
	for _, a := range []api.Addr{four(0x0a010203), four(0), six(six2001|0x1234, 0x5678), six(0, 1)} {
		e := waits(a, 3)
		for i := range 64 {
			hi, lo, port, kind := e.End, e.End, e.End, e.End
			hi.Addr.Hi ^= 1 << i
			lo.Addr.Lo ^= 1 << i
			port.Port ^= 1 << i
			kind.Addr.V6 = !kind.Addr.V6
			for _, x := range []api.End{hi, lo, port, kind} {
				alone(t, dial.View{Peers: []api.Peer{{End: x, In: true}}}, e, 3, true)
				for _, v := range []dial.View{{Peers: []api.Peer{{End: x}}}, {Peers: []api.Peer{{End: x, In: true}, {End: x}}}, {Book: []api.Entry{{End: x, State: flying}}}, {Book: []api.Entry{{End: x, State: up}}}, {Peers: []api.Peer{{End: x}}, Book: []api.Entry{{End: x, State: idle}}}} {
					alone(t, v, e, 3, may(v, e, 3))
				}
			}
		}
		alone(t, dial.View{Peers: []api.Peer{{End: e.End, In: true}}}, e, 3, false)
		alone(t, dial.View{Peers: []api.Peer{{End: e.End}}}, e, 3, false)
	}
}

// Of entries that waited as long the end decides, by each field of it and wherever it stands.
func TestDi1EachPairOfEnds(t *testing.T) {
	var l []api.End
	for _, a := range addresses() {
		for _, port := range []int{1, 80, 255, 256, 65535} {
			l = append(l, api.End{Addr: a, Port: port})
		}
	}
	for _, x := range l {
		for _, y := range l {
			want := x
			if order(y, x) < 0 {
				want = y
			}
			v := dial.View{Book: []api.Entry{{End: x, State: idle, Next: 3}, {End: y, State: idle, Next: 3}}}
			checkPick(t, v, 5, want, true)
			v.Book[0].Next = 2
			checkPick(t, v, 5, x, true)
			v.Book[0].Next = 4
			checkPick(t, v, 5, y, true)
		}
	}
}

// How often an end was dialled in vain does not matter, nor anything else of a peer than its end and who dialled.
func TestDi1OtherFields(t *testing.T) {
	for _, n := range append(ticks(), odd()...) {
		x := api.Peer{End: ending("10.1.0.1"), Since: n, Score: api.Score{Points: n, At: n}, Ping: n, Work: n}
		y := api.Peer{End: ending("10.2.0.1"), In: true, Since: n, Score: api.Score{Points: n, At: n}, Ping: n, Work: n}
		v := read("idle=10.1.9.9@1 idle=10.2.0.1@2 idle=10.3.9.9@3 idle=10.2.0.2@4 idle=10.4.0.1@5")
		v.Peers = []api.Peer{x, y}
		v.Book = append(v.Book, api.Entry{End: api.End{Addr: four(0x0a030001), Port: n}, State: flying, Fails: n, Next: n})
		check(t, v, 9)
		checkPick(t, v, 9, ending("10.2.0.2"), true)
	}
	for fails := range topFails + 1 {
		v := dial.View{Book: []api.Entry{{End: end(four(1)), State: idle, Fails: topFails - fails, Next: 5}, {End: end(four(2)), State: idle, Fails: fails, Next: 4}}}
		checkPick(t, v, 9, end(four(2)), true)
		checkWhen(t, v, 4, 5)
	}
}

// few are views of one thing each, some of which forbid others of them to be dialled.
func few() []dial.View {
	return []dial.View{read("idle=10.1.0.1@2"), read("idle=10.1.0.2@2"), read("idle=10.2.0.1@1"), read("idle=10.0.0.1@3"), read("idle=2001:db8::1@2"), read("idle=::ffff:10.1.0.1"), read("fly=10.1.0.1@1"), read("fly=2001:db8::2"), read("up=10.2.0.1@3"), read("in=10.1.0.2"), read("out=10.2.0.2"), read("in=2001:db8::1"), read("ban=10.0.0.0/15@3"), read("ban=10.2.0.1/32@4"), read("ban=::/0@2")}
}

// eachFew hands out all views of up to so many of the few, in all orders.
func eachFew(most int, see func(dial.View)) {
	var more func(v dial.View, n int)
	more = func(v dial.View, n int) {
		see(v)
		if n == most {
			return
		}
		for _, x := range few() {
			more(joined(v, x), n+1)
		}
	}
	more(dial.View{}, 0)
}

func TestDi1EachFew(t *testing.T) {
	eachFew(4, func(v dial.View) { check(t, v, 2) })
	eachFew(3, func(v dial.View) {
		for now := -1; now <= 5; now++ {
			check(t, v, now, read("idle=10.1.0.2@3").Book[0], read("idle=10.9.0.1@1").Book[0])
		}
	})
}

// draw is an address of one of few groups, with few in each, or one that is not valid.
func draw(random *rand.Rand) api.Addr {
	all := slices.Concat(addresses(), addresses(), wrong())
	switch random.Intn(3) {
	case 0:
		return four(uint64(random.Intn(12)<<16 | random.Intn(3)))
	case 1:
		return six(uint64(random.Intn(12))<<32|uint64(random.Intn(2)), uint64(random.Intn(2)))
	}
	return all[random.Intn(len(all))]
}

func drawEnd(random *rand.Rand) api.End {
	return api.End{Addr: draw(random), Port: 1 + random.Intn(3) - random.Intn(20)/19*9}
}

func drawEntry(random *rand.Rand) api.Entry {
	return api.Entry{End: drawEnd(random), State: 1 + random.Intn(5)%4, Fails: random.Intn(4) - random.Intn(20)/19*9, Next: random.Intn(9) - random.Intn(20)/19*9}
}

func drawBan(random *rand.Rand) api.Ban {
	bits := random.Intn(132) - 1
	if random.Intn(3) > 0 {
		bits = 14 + random.Intn(20)
	}
	return api.Ban{Net: first(draw(random), bits), Until: random.Intn(9)}
}

func drawn(random *rand.Rand, book, peers, bans int) dial.View {
	var v dial.View
	for range book {
		v.Book = append(v.Book, drawEntry(random))
	}
	for range peers {
		v.Peers = append(v.Peers, api.Peer{End: drawEnd(random), In: random.Intn(4) > 0, Since: random.Intn(5), Ping: random.Intn(3)})
	}
	for range bans {
		v.Bans = append(v.Bans, drawBan(random))
	}
	return v
}

func TestDi1DrawnViews(t *testing.T) {
	open := 0
	for seed := range int64(2000) {
		random := rand.New(rand.NewSource(seed))
		v := drawn(random, random.Intn(30), random.Intn(20), random.Intn(12))
		for range 3 {
			now := random.Intn(11) - 1
			check(t, v, now, drawEntry(random), drawEntry(random), drawEntry(random))
			if _, found := pick(v, now); found {
				open++
			}
		}
	}
	if open < 2000 || open > 5500 {
		t.Fatalf("the test itself: in %d of 6000 views somebody is picked", open)
	}
}

// The order in which entries, peers and bans stand does not matter.
func TestDi1AnyOrder(t *testing.T) {
	for seed := range int64(300) {
		random := rand.New(rand.NewSource(seed))
		v := drawn(random, 40, 10, 6)
		best, found := dial.Pick(v, 4)
		next := dial.When(v, 4)
		for range 6 {
			random.Shuffle(len(v.Book), func(i, k int) { v.Book[i], v.Book[k] = v.Book[k], v.Book[i] })
			random.Shuffle(len(v.Peers), func(i, k int) { v.Peers[i], v.Peers[k] = v.Peers[k], v.Peers[i] })
			random.Shuffle(len(v.Bans), func(i, k int) { v.Bans[i], v.Bans[k] = v.Bans[k], v.Bans[i] })
			checkPick(t, v, 4, best, found)
			checkWhen(t, v, 4, next)
		}
	}
}

// Whoever forbids somebody to be dialled does so wherever it stands among others that forbid nothing.
func TestDi1AtEachPlace(t *testing.T) {
	const long = 40
	var v dial.View
	for i := range uint64(long) {
		v.Book = append(v.Book, known(four(i<<16), up, int(i)))
		v.Peers = append(v.Peers, in(four(i<<16)))
		v.Bans = append(v.Bans, banned(four(i<<16|7), 32, 9))
	}
	e := waits(four(50<<16), 3)
	for i := range long {
		alone(t, v, e, 5, true)
		book, inbound, outbound, bans := cloned(v), cloned(v), cloned(v), cloned(v)
		book.Book = slices.Insert(book.Book, i, known(four(50<<16|9), flying, 0))
		inbound.Peers = slices.Insert(inbound.Peers, i, api.Peer{End: e.End, In: true})
		outbound.Peers = slices.Insert(outbound.Peers, i, out(four(50<<16|9)))
		bans.Bans = slices.Insert(bans.Bans, i, banned(four(50<<16), 31, 9))
		for _, x := range []dial.View{book, inbound, outbound, bans} {
			alone(t, x, e, 5, false)
		}
	}
}

// Whoever waited longest is picked wherever it stands, and the nearest tick is found wherever it stands.
func TestDi1EachPlaceInTheBook(t *testing.T) {
	const long = 40
	for i := range long {
		for _, first := range []int{0, 1, 4, 5} {
			var v dial.View
			for k := range uint64(long) {
				v.Book = append(v.Book, waits(four(k<<16), 5))
			}
			v.Book[i].Next = first
			want := v.Book[i].End
			if first == 5 {
				want = v.Book[0].End
			}
			checkPick(t, v, 5, want, true)
			checkWhen(t, v, first-1, when(v, first-1))
			checkWhen(t, v, first, when(v, first))
			// Of those behind it, too, if it is banned.
			v.Bans = []api.Ban{{Net: api.Net{Addr: want.Addr, Bits: 16}, Until: 6}}
			rest := cloned(v)
			rest.Book = slices.DeleteFunc(rest.Book, func(e api.Entry) bool { return e.End == want })
			checkPick(t, v, 5, rest.Book[0].End, true)
			check(t, v, 5)
			check(t, v, 6)
		}
	}
}

// crowded is a view as full as a conf allows: a book in which each entry is of a group of its own, as many peers, and as many bans.
func crowded() dial.View {
	var v dial.View
	for i := range uint64(topBook) {
		n := i * 389 % topBook
		v.Book = append(v.Book, waits(six(n<<32, 0), int(n/2)+1))
		v.Bans = append(v.Bans, banned(four(n), 32, 99999))
	}
	for i := range uint64(topPeers) {
		v.Peers = append(v.Peers, api.Peer{End: end(four(i*7919%topPeers<<16 | 5)), In: i%2 == 0})
	}
	return v
}

func TestDi1LongLists(t *testing.T) {
	v := crowded()
	checkPick(t, v, 0, api.End{}, false)
	checkWhen(t, v, 0, 1)
	checkPick(t, v, 1, end(six(0, 0)), true)
	checkWhen(t, v, 1, 2)
	checkPick(t, v, topTick, end(six(0, 0)), true)
	checkWhen(t, v, topBook/2-1, topBook/2)
	checkWhen(t, v, topBook/2, 0)
	// The last one of the peers, of the bans and of the book may forbid it.
	v.Peers[topPeers-1] = api.Peer{End: end(six(0, 0)), In: true}
	checkPick(t, v, 5, end(six(1<<32, 0)), true)
	v.Peers[0] = out(six(1<<32, 99))
	checkPick(t, v, 5, end(six(2<<32, 0)), true)
	v.Bans[topBans-1] = banned(six(2<<32, 0), 31, 6)
	checkPick(t, v, 5, end(six(4<<32, 0)), true)
	checkPick(t, v, 6, end(six(2<<32, 0)), true)
	for i, e := range v.Book {
		if e.End.Addr.Hi>>32 == 900 {
			v.Book[i] = known(six(4<<32, 900), flying, 0)
		}
	}
	checkPick(t, v, 5, end(six(5<<32, 0)), true)
	checkMay(t, v, waits(six(5<<32, 7), 5), 5, true)
	checkMay(t, v, waits(six(4<<32, 7), 5), 5, false)
	last := v.Peers[topPeers-1]
	v.Peers[topPeers-1] = out(six(5<<32, 1))
	checkPick(t, v, 5, end(six(0, 0)), true)
	v.Peers[topPeers-2] = last
	checkPick(t, v, 5, end(six(6<<32, 0)), true)
	v.Book[topBook-1] = known(six(6<<32, 1), flying, 0)
	checkPick(t, v, 5, end(six(7<<32, 0)), true)
	checkMay(t, v, waits(six(6<<32, 7), 5), 5, false)
	// Nobody may but the very last one, or nobody at all.
	v.Bans[0] = banned(six(0, 0), 22, 6)
	checkPick(t, v, 5, api.End{}, false)
	checkPick(t, v, 500, end(six(2<<32, 0)), true)
	v.Bans[0] = banned(six(0, 0), 22, 999999)
	v.Book[7] = waits(six(3<<42, 0), 900)
	checkPick(t, v, 899, api.End{}, false)
	checkPick(t, v, 900, end(six(3<<42, 0)), true)
}

// There is no limit to the lists: they may have more than a conf allows.
func TestDi1LongerLists(t *testing.T) {
	var v dial.View
	for i := range uint64(30000) {
		v.Book = append(v.Book, known(six(i<<32, 0), 1+int(i%3), 60000-int(i)))
		v.Peers = append(v.Peers, in(six(i<<32, 1)), in(six(i<<32, 2)), in(six(i<<32, 3)))
		if i%10 == 0 {
			v.Bans = append(v.Bans, banned(six(i<<32, 0), 32, 70000))
		}
	}
	checkPick(t, v, 60000, end(six(29997<<32, 0)), true)
	checkWhen(t, v, 60000-29997, 60000-29994)
	checkPick(t, v, 60000-29997, end(six(29997<<32, 0)), true)
	checkPick(t, v, 60000-29997-1, api.End{}, false)
	v.Peers[0] = out(six(29997<<32, 7))
	v.Bans[0] = banned(six(29994<<32, 0), 64, 70000)
	v.Bans[2999] = banned(six(29991<<32, 0), 128, 70000)
	v.Peers[89999] = in(six(29988<<32, 0))
	checkPick(t, v, 60000, end(six(29985<<32, 0)), true)
}

// Many goroutines may ask about one view at once, and about another one each.
func TestDi1ManyGoroutines(t *testing.T) {
	random := rand.New(rand.NewSource(28))
	shared := drawn(random, 60, 30, 9)
	var wait sync.WaitGroup
	for range 16 {
		own := drawn(random, 30, 10, 6)
		wait.Go(func() {
			for _, v := range []dial.View{shared, own} {
				for now := -1; now < 10; now++ {
					best, found := pick(v, now)
					if got, ok := dial.Pick(v, now); got != best || ok != found {
						t.Errorf("Pick is %+v, %v, not %+v, %v", got, ok, best, found)
					}
					if got := dial.When(v, now); got != when(v, now) {
						t.Errorf("When is %d, not %d", got, when(v, now))
					}
					for _, e := range v.Book {
						if got := dial.May(v, e, now); got != may(v, e, now) {
							t.Errorf("May of %+v is %v", e, got)
						}
					}
				}
			}
		})
	}
	wait.Wait()
}

// sound asks that whoever is picked may be, and that nobody who may waited longer; it tells where the entry stands, -1 if nobody may be dialled.
func sound(t *testing.T, v dial.View, now int) int {
	t.Helper()
	e, ok := dial.Pick(v, now)
	if !ok {
		for _, x := range v.Book {
			if dial.May(v, x, now) {
				t.Fatalf("nobody is picked of %+v at %d, though %+v may be", v, now, x)
			}
		}
		return -1
	}
	at := -1
	for i, x := range v.Book {
		if x.End == e && dial.May(v, x, now) && (at < 0 || x.Next < v.Book[at].Next) {
			at = i
		}
	}
	if at < 0 {
		t.Fatalf("%+v is picked of %+v at %d, and may not be", e, v, now)
	}
	picked := v.Book[at]
	if !valid(picked) || picked.State != idle || picked.Next > now {
		t.Fatalf("%+v is not due at %d", picked, now)
	}
	for _, b := range v.Bans {
		if covers(b.Net, e.Addr) && b.Until > now {
			t.Fatalf("%+v is banned by %+v at %d", e, b, now)
		}
	}
	for _, p := range v.Peers {
		if p.End == e || !p.In && together(p.End.Addr, e.Addr) {
			t.Fatalf("%+v is picked beside %+v", e, p)
		}
	}
	for _, x := range v.Book {
		if x.State == flying && together(x.End.Addr, e.Addr) {
			t.Fatalf("%+v is picked beside %+v", e, x)
		}
		if x.Next < picked.Next && dial.May(v, x, now) {
			t.Fatalf("%+v is picked at %d, and %+v waited longer", picked, now, x)
		}
	}
	return at
}

func TestDi2EachFew(t *testing.T) {
	eachFew(4, func(v dial.View) { sound(t, v, 2) })
	eachFew(3, func(v dial.View) {
		for now := -1; now <= 5; now++ {
			sound(t, v, now)
		}
	})
}

func TestDi2DrawnViews(t *testing.T) {
	for seed := range int64(3000) {
		random := rand.New(rand.NewSource(seed))
		v := drawn(random, random.Intn(40), random.Intn(20), random.Intn(12))
		for now := -1; now < 10; now++ {
			sound(t, v, now)
		}
	}
}

// land makes an outbound peer of a flying entry, or lets it wait.
func land(random *rand.Rand, v *dial.View, now int) {
	for i, e := range v.Book {
		switch {
		case e.State != flying:
		case random.Intn(2) == 0:
			v.Book[i].State = up
			v.Peers = append(v.Peers, api.Peer{End: e.End})
		default:
			v.Book[i].State, v.Book[i].Next = idle, now+1+random.Intn(5)
		}
	}
}

// leave takes a peer away.
func leave(v *dial.View, i int) {
	e := v.Peers[i].End
	v.Peers = slices.Delete(v.Peers, i, i+1)
	for k := range v.Book {
		if v.Book[k].End == e && v.Book[k].State == up {
			v.Book[k].State = idle
		}
	}
}

// However they are dialled, land, leave, come and are banned: who is picked may be, and it is always one who waited longest.
func TestDi2DialledAgainAndAgain(t *testing.T) {
	picked := 0
	for seed := range int64(80) {
		random := rand.New(rand.NewSource(seed))
		var v dial.View
		for i := range 50 {
			v.Book = append(v.Book, api.Entry{End: api.End{Addr: draw(random), Port: 1 + i}, State: idle, Next: random.Intn(20)})
		}
		for now := range 60 {
			for at := sound(t, v, now); at >= 0; at = sound(t, v, now) {
				v.Book[at].State = flying
				picked++
			}
			switch random.Intn(4) {
			case 0:
				land(random, &v, now)
			case 1:
				v.Peers = append(v.Peers, api.Peer{End: drawEnd(random), In: true})
			case 2:
				v.Bans = append(v.Bans, api.Ban{Net: first(draw(random), 16+random.Intn(17)), Until: now + random.Intn(9)})
			default:
				if len(v.Peers) > 0 {
					leave(&v, random.Intn(len(v.Peers)))
				}
			}
		}
	}
	if picked < 2000 {
		t.Fatalf("the test itself: only %d were picked", picked)
	}
}

// Each one that may be dialled has its turn: nobody is passed over by those who come back.
func TestDi2EachHasItsTurn(t *testing.T) {
	for seed := range int64(40) {
		random := rand.New(rand.NewSource(seed))
		var v dial.View
		for i := range uint64(40) {
			v.Book = append(v.Book, waits(four(i<<16|uint64(random.Intn(9))), random.Intn(10)))
		}
		random.Shuffle(len(v.Book), func(i, k int) { v.Book[i], v.Book[k] = v.Book[k], v.Book[i] })
		seen := map[api.End]bool{}
		for now := 10; now < 50; now++ {
			at := sound(t, v, now)
			if at < 0 || seen[v.Book[at].End] {
				t.Fatalf("at %d nobody is picked, or one again", now)
			}
			seen[v.Book[at].End] = true
			v.Book[at].Next = now + random.Intn(3)
		}
	}
}

// Nobody is due ahead of the tick that When tells, and somebody is then.
func TestDi2NobodyIsDueAheadOfWhen(t *testing.T) {
	for seed := range int64(500) {
		random := rand.New(rand.NewSource(seed))
		v := drawn(random, 1+random.Intn(12), 0, 0)
		for i, e := range v.Book {
			v.Book[i].End.Addr = six(uint64(i)<<32, 0)
			if e.State == flying {
				v.Book[i].State = up
			}
		}
		// From 0 on: ahead of it, 0 may be a tick or say that there is none.
		for now := 0; ; {
			next := dial.When(v, now)
			if next <= now {
				if next != 0 {
					t.Fatalf("When of %+v and %d is %d", v, now, next)
				}
				break
			}
			for _, e := range v.Book {
				if dial.May(v, e, next-1) != dial.May(v, e, now) {
					t.Fatalf("%+v is due ahead of %d", e, next)
				}
			}
			if !slices.ContainsFunc(v.Book, func(e api.Entry) bool { return e.Next == next && dial.May(v, e, next) }) {
				t.Fatalf("nobody of %+v is due at %d", v, next)
			}
			now = next
		}
	}
}
