package bans_test

import (
	"cmp"
	"encoding/binary"
	"maps"
	"math"
	"math/rand"
	"net/netip"
	"slices"
	"strconv"
	"strings"
	"sync"
	"testing"

	"doorman/api"
	"doorman/bans"
)

// last is the last tick.
const last = 1099511627776

// fields is an address with the bits of the library's; one that stands in IPv6 for one of IPv4 stays there, where it is not valid.
func fields(a netip.Addr) api.Addr {
	whole := a.As16()
	hi, lo := binary.BigEndian.Uint64(whole[:8]), binary.BigEndian.Uint64(whole[8:])
	if a.Is4() {
		return api.Addr{Lo: lo & math.MaxUint32}
	}
	return api.Addr{V6: true, Hi: hi, Lo: lo}
}

func address(s string) api.Addr { return fields(netip.MustParseAddr(s)) }

// net is the subnet of a text, not masked: 10.1.2.3/8 is not valid.
func net(s string) api.Net {
	p := netip.MustParsePrefix(s)
	return api.Net{Addr: fields(p.Addr()), Bits: p.Bits()}
}

func held(n api.Net, until int) api.Ban { return api.Ban{Net: n, Until: until} }

// one is the ban of a text as 10.0.0.0/8=50, valid or not.
func one(s string) api.Ban {
	n, number, _ := strings.Cut(s, "=")
	until, err := strconv.Atoi(number)
	if err != nil {
		panic(s)
	}
	return held(net(n), until)
}

// list are the bans of a text.
func list(s string) []api.Ban {
	var l []api.Ban
	for _, x := range strings.Fields(s) {
		l = append(l, one(x))
	}
	return l
}

// rising are valid subnets in order: the first and the last ones of both kinds, some inside each other, and some of both kinds that have the same numbers.
func rising() []api.Net {
	var l []api.Net
	for _, s := range strings.Fields("0.0.0.0/0 0.0.0.0/1 0.0.0.0/31 0.0.0.0/32 0.0.0.1/32 9.0.0.0/8 10.0.0.0/7 10.0.0.0/8 10.0.0.0/9 10.1.0.0/16 10.1.2.0/24 10.1.2.2/31 10.1.2.3/32 10.128.0.0/9 11.0.0.0/8 128.0.0.0/1 255.255.255.254/31 255.255.255.255/32 ::/0 ::/1 ::/32 ::/128 ::1/128 ::a00:0/104 ::a01:203/128 ::8000:0:0:0/65 0:0:0:1::/64 a00::/8 2001:db8::/32 2001:db8::/128 2001:db8::1/128 2001:db8:0:1::/64 2001:db9::/32 8000::/1 ffff:ffff:ffff:ffff:ffff:ffff:ffff:ffff/128") {
		l = append(l, net(s))
	}
	return l
}

// broken are subnets that are not valid: bits behind the first ones, wrong numbers of bits, wrong addresses.
func broken() []api.Net {
	ten := address("10.0.0.0")
	return []api.Net{
		net("10.1.2.3/8"), net("10.0.0.0/6"), net("0.0.0.1/31"), net("128.0.0.0/0"), net("::1/127"), net("2001:db8::1/32"), net("::ffff:10.0.0.0/104"), net("::ffff:10.1.2.3/128"),
		{Addr: ten, Bits: -1}, {Addr: ten, Bits: 33}, {Addr: ten, Bits: 104}, {Addr: ten, Bits: 1<<32 + 8}, {Addr: ten, Bits: math.MinInt}, {Addr: ten, Bits: math.MaxInt}, {Bits: -1}, {Addr: address("::"), Bits: -1}, {Addr: address("::"), Bits: 129}, {Addr: address("2001:db8::"), Bits: 256},
		{Addr: api.Addr{Hi: 1, Lo: ten.Lo}, Bits: 8}, {Addr: api.Addr{Lo: 1<<32 | ten.Lo}, Bits: 8}, {Addr: api.Addr{Lo: 1 << 32}}, {Addr: api.Addr{Hi: math.MaxUint64, Lo: math.MaxUint64}, Bits: 32},
	}
}

// outside are numbers until which no valid ban lasts.
func outside() []int {
	return []int{math.MinInt, -last - 1, -last, -1<<32 + 50, -50, -1, 0, last + 1, last + 50, 2*last + 1, 1<<62 + 50, math.MaxInt}
}

// wrong are bans that are not valid.
func wrong() []api.Ban {
	l := []api.Ban{{}}
	for _, n := range outside() {
		l = append(l, held(net("10.0.0.0/8"), n), held(net("0.0.0.0/0"), n), held(net("2001:db8::/32"), n), held(net("10.1.2.3/8"), n))
	}
	for _, n := range broken() {
		l = append(l, held(n, 1), held(n, 50), held(n, last))
	}
	return l
}

// series are bans of so many addresses, in order: one half of IPv4, one of IPv6, and each lasts a tick longer than the one before it.
func series(n int) []api.Ban {
	l := make([]api.Ban, n)
	for i := range l {
		whole := api.Net{Addr: api.Addr{Lo: uint64(3 * i)}, Bits: 32}
		if i >= n/2 {
			whole.Addr.V6, whole.Bits = true, 128
		}
		l[i] = held(whole, i+1)
	}
	return l
}

// library is an address as the library's; not valid if the address is not.
func library(a api.Addr) netip.Addr {
	var b [16]byte
	binary.BigEndian.PutUint64(b[:8], a.Hi)
	binary.BigEndian.PutUint64(b[8:], a.Lo)
	x := netip.AddrFrom16(b)
	switch {
	case a.V6 && !x.Is4In6():
		return x
	case !a.V6 && a.Hi == 0 && a.Lo>>32 == 0:
		return netip.AddrFrom4([4]byte(b[12:]))
	}
	return netip.Addr{}
}

// within tells whether an address is in a subnet, both valid.
func within(n api.Net, a api.Addr) bool {
	p := netip.PrefixFrom(library(n.Addr), n.Bits)
	return p.IsValid() && p == p.Masked() && library(a).IsValid() && p.Contains(library(a))
}

func valid(b api.Ban) bool {
	return within(b.Net, b.Net.Addr) && b.Until > 0 && b.Until <= last
}

// order compares subnets by their fields: IPv4 first.
func order(a, b api.Net) int {
	kind := map[bool]int{false: 4, true: 6}
	return cmp.Or(cmp.Compare(kind[a.Addr.V6], kind[b.Addr.V6]), cmp.Compare(a.Addr.Hi, b.Addr.Hi), cmp.Compare(a.Addr.Lo, b.Addr.Lo), cmp.Compare(a.Bits, b.Bits))
}

// right is what Right must return: a list in order, without doubles, is what sorting and compacting makes of it.
func right(l []api.Ban) bool {
	c := slices.SortedStableFunc(slices.Values(l), func(a, b api.Ban) int { return order(a.Net, b.Net) })
	c = slices.CompactFunc(c, func(a, b api.Ban) bool { return a.Net == b.Net })
	return slices.Equal(c, l) && !slices.ContainsFunc(l, func(b api.Ban) bool { return !valid(b) })
}

// added is what Add must return.
func added(l []api.Ban, b api.Ban, most int) ([]api.Ban, api.Errno) {
	if !valid(b) {
		return nil, api.ErrArg
	}
	for i, x := range l {
		if x.Net == b.Net {
			longer := held(x.Net, slices.Max([]int{x.Until, b.Until}))
			return slices.Concat(l[:i], []api.Ban{longer}, l[i+1:]), api.OK
		}
	}
	if most <= len(l) {
		return nil, api.ErrFull
	}
	for i, x := range l {
		if order(x.Net, b.Net) == 1 {
			return slices.Concat(l[:i], []api.Ban{b}, l[i:]), api.OK
		}
	}
	return slices.Concat(l, []api.Ban{b}), api.OK
}

// dropped is what Drop must return.
func dropped(l []api.Ban, n api.Net) ([]api.Ban, api.Errno) {
	for i, x := range l {
		if x.Net == n {
			return slices.Concat(l[:i], l[i+1:]), api.OK
		}
	}
	return nil, api.ErrNone
}

// longest is what Until must return.
func longest(l []api.Ban, a api.Addr, now int) int {
	var ends []int
	for _, b := range l {
		if now < b.Until && within(b.Net, a) {
			ends = append(ends, b.Until)
		}
	}
	if len(ends) == 0 {
		return 0
	}
	return slices.Max(ends)
}

// swept is what Sweep must return.
func swept(l []api.Ban, now int) ([]api.Ban, int) {
	var kept []api.Ban
	gone := 0
	for _, b := range l {
		if b.Until <= now {
			gone++
		} else {
			kept = append(kept, b)
		}
	}
	return kept, gone
}

// alone asks for a list, and a number, that are made of a list that lies in a longer array: nothing is written there, nothing of it is handed out, and nothing that was handed out is used again.
func alone[N ~int](t *testing.T, l []api.Ban, ask func([]api.Ban) ([]api.Ban, N)) ([]api.Ban, N) {
	t.Helper()
	mark := held(net("1.2.3.4/32"), 77)
	whole := slices.Concat([]api.Ban{mark}, l, []api.Ban{mark, mark})
	before := slices.Clone(whole)
	given := whole[1 : 1+len(l)]
	got, number := ask(given)
	if !slices.Equal(whole, before) {
		t.Fatalf("%v has become %v", before, whole)
	}
	answer := slices.Clone(got)
	got = got[:cap(got)]
	for i := range got {
		got[i] = held(net("5.6.7.8/32"), 88)
	}
	if !slices.Equal(whole, before) {
		t.Fatalf("what is made of %v is a piece of it", l)
	}
	again := [][]api.Ban{given, given[:len(l):len(l)]}
	if len(l) == 0 {
		again = append(again, nil)
	}
	for _, x := range again {
		if other, n := ask(x); !slices.Equal(other, answer) || n != number {
			t.Fatalf("of %v, %v and %d are made first, and then %v and %d", l, answer, number, other, n)
		}
	}
	return answer, number
}

func checkRight(t *testing.T, l []api.Ban, want bool) {
	t.Helper()
	if got := bans.Right(l); got != want {
		t.Fatalf("Right(%v) is %v", l, got)
	}
}

// checkMade holds a list that is made of another one, and the number beside it, against what is to come out.
func checkMade[N ~int](t *testing.T, l []api.Ban, ask func([]api.Ban) ([]api.Ban, N), want []api.Ban, number N, asked ...any) {
	t.Helper()
	if got, n := alone(t, l, ask); !slices.Equal(got, want) || n != number {
		t.Fatalf("%v of %v is %v, %d, not %v, %d", asked, l, got, n, want, number)
	}
}

func checkAdd(t *testing.T, l []api.Ban, b api.Ban, most int, want []api.Ban, fails api.Errno) {
	t.Helper()
	add := func(l []api.Ban) ([]api.Ban, api.Errno) { return bans.Add(l, b, most) }
	checkMade(t, l, add, want, fails, "Add", b, most)
}

func checkDrop(t *testing.T, l []api.Ban, n api.Net, want []api.Ban, fails api.Errno) {
	t.Helper()
	drop := func(l []api.Ban) ([]api.Ban, api.Errno) { return bans.Drop(l, n) }
	checkMade(t, l, drop, want, fails, "Drop", n)
}

func checkSweep(t *testing.T, l []api.Ban, now int, want []api.Ban, gone int) {
	t.Helper()
	sweep := func(l []api.Ban) ([]api.Ban, int) { return bans.Sweep(l, now) }
	checkMade(t, l, sweep, want, gone, "Sweep", now)
}

func checkUntil(t *testing.T, l []api.Ban, a api.Addr, now, want int) {
	t.Helper()
	if got := bans.Until(l, a, now); got != want {
		t.Fatalf("Until(%v, %v, %d) is %d, not %d", l, a, now, got, want)
	}
}

func holdAdd(t *testing.T, l []api.Ban, b api.Ban, most int) {
	t.Helper()
	want, fails := added(l, b, most)
	checkAdd(t, l, b, most, want, fails)
}

func holdDrop(t *testing.T, l []api.Ban, n api.Net) {
	t.Helper()
	want, fails := dropped(l, n)
	checkDrop(t, l, n, want, fails)
}

func holdSweep(t *testing.T, l []api.Ban, now int) {
	t.Helper()
	want, gone := swept(l, now)
	checkSweep(t, l, now, want, gone)
}

// untils gives the subnets ticks that differ, in no order.
func untils(l []api.Net) []api.Ban {
	var x []api.Ban
	for i, n := range l {
		x = append(x, held(n, 1+i*17%101))
	}
	return x
}

// few are bans of a few subnets that lie inside each other or apart, some of one subnet, some not valid.
func few() []api.Ban {
	return list("10.0.0.0/8=3 10.0.0.0/8=6 10.1.0.0/16=5 ::/0=4 9.0.0.0/8=1 10.1.2.3/8=7 10.1.0.0/16=0 ::/0=-2")
}

// eachFew calls a function with each list of up to so many of the few bans, in each order.
func eachFew(most int, see func([]api.Ban)) {
	var longer func([]api.Ban)
	longer = func(l []api.Ban) {
		see(l)
		if len(l) == most {
			return
		}
		for _, b := range few() {
			longer(append(slices.Clone(l), b))
		}
	}
	longer(nil)
}

func TestBs1RightByHand(t *testing.T) {
	checkRight(t, nil, true)
	checkRight(t, []api.Ban{}, true)
	for _, c := range []struct {
		l    string
		want bool
	}{
		{"10.0.0.0/8=50", true}, {"0.0.0.0/0=1", true}, {"0.0.0.0/0=1099511627776", true}, {"::/0=1", true}, {"255.255.255.255/32=1099511627775", true}, {"::1/128=1099511627776", true},
		{"10.0.0.0/8=50 10.1.0.0/16=20", true}, {"10.0.0.0/8=20 10.1.0.0/16=50", true}, {"10.0.0.0/8=5 10.0.0.0/9=5", true}, {"9.0.0.0/8=5 10.0.0.0/7=5", true}, {"0.0.0.0/0=5 0.0.0.0/1=4 0.0.0.0/2=3 0.0.0.0/32=2 0.0.0.1/32=1", true}, {"255.255.255.255/32=1 ::/0=1", true}, {"0.0.0.0/0=1 ::/0=1", true}, {"9.0.0.0/8=1 10.0.0.0/8=1 11.0.0.0/8=1", true}, {"::/128=7 ::1/128=7 1::/16=7", true}, {"0:0:0:1::/64=9 1::/16=9", true},
		{"10.0.0.0/8=0", false}, {"10.0.0.0/8=-1", false}, {"10.0.0.0/8=1099511627777", false}, {"10.1.2.3/8=50", false}, {"::1/127=50", false}, {"::ffff:10.0.0.0/104=50", false},
		{"10.0.0.0/8=50 10.0.0.0/8=50", false}, {"10.0.0.0/8=20 10.0.0.0/8=50", false}, {"10.0.0.0/8=50 10.0.0.0/8=20", false}, {"10.1.0.0/16=20 10.0.0.0/8=50", false}, {"10.0.0.0/9=5 10.0.0.0/8=5", false}, {"10.0.0.0/8=5 9.0.0.0/8=5", false}, {"::/0=1 0.0.0.0/0=1", false}, {"::/0=1 255.255.255.255/32=1", false}, {"::1/128=1 ::/128=1", false}, {"1::/16=9 0:0:0:1::/64=9", false},
		{"9.0.0.0/8=1 10.0.0.0/8=1 10.0.0.0/8=1", false}, {"9.0.0.0/8=1 9.0.0.0/8=1 10.0.0.0/8=1", false}, {"9.0.0.0/8=1 11.0.0.0/8=1 10.0.0.0/8=1", false}, {"10.0.0.0/8=1 9.0.0.0/8=1 11.0.0.0/8=1", false}, {"10.0.0.0/8=1 11.0.0.0/8=1 9.0.0.0/8=1", false}, {"10.0.0.0/8=1 11.0.0.0/8=1 10.0.0.0/8=1", false},
		{"9.0.0.0/8=0 10.0.0.0/8=1 11.0.0.0/8=1", false}, {"9.0.0.0/8=1 10.0.0.0/8=0 11.0.0.0/8=1", false}, {"9.0.0.0/8=1 10.0.0.0/8=1 11.0.0.0/8=0", false}, {"9.0.0.0/8=1 10.1.2.3/8=1 11.0.0.0/8=1", false}, {"9.0.0.0/8=1 10.0.0.0/8=1 ::ffff:0:0/96=1", false},
	} {
		checkRight(t, list(c.l), c.want)
	}
}

func TestBs1RightOfEachPair(t *testing.T) {
	for i, a := range rising() {
		for k, b := range rising() {
			checkRight(t, []api.Ban{held(a, 5), held(b, 5)}, i < k)
			checkRight(t, []api.Ban{held(a, 5), held(b, 4)}, i < k)
			checkRight(t, []api.Ban{held(a, 5), held(b, 6)}, i < k)
			checkRight(t, []api.Ban{held(a, 0), held(b, 6)}, false)
			checkRight(t, []api.Ban{held(a, 5), held(b, last+1)}, false)
		}
	}
}

func TestBs1RightAtEachPlace(t *testing.T) {
	l := untils(rising())
	checkRight(t, l, true)
	for i := range l {
		checkRight(t, l[i:], true)
		checkRight(t, l[:i], true)
		checkRight(t, slices.Concat(l[:i], l[i+1:]), true)
		checkRight(t, slices.Insert(slices.Clone(l), i, l[i]), false)
		for _, b := range wrong() {
			c := slices.Clone(l)
			c[i] = b
			checkRight(t, c, false)
			checkRight(t, []api.Ban{b}, false)
		}
		for k := range i {
			c := slices.Clone(l)
			c[i], c[k] = l[k], l[i]
			checkRight(t, c, false)
		}
	}
}

func TestBs1RightOfEachFew(t *testing.T) {
	n := 0
	eachFew(4, func(l []api.Ban) {
		checkRight(t, l, right(l))
		if right(l) {
			n++
		}
	})
	// Each set of 9.0.0.0/8, 10.0.0.0/8 (of which there are two bans), 10.1.0.0/16 and ::/0.
	if n != 2*3*2*2 {
		t.Fatalf("the test itself: %d lists are valid", n)
	}
}

// There is no limit to how many bans a valid list has.
func TestBs1RightOfMany(t *testing.T) {
	for _, n := range []int{1, 2, api.MaxBans - 1, api.MaxBans, api.MaxBans + 1, 20000} {
		l := series(n)
		checkRight(t, l, true)
		for _, i := range []int{0, n / 2, n - 1} {
			c := slices.Clone(l)
			c[i].Until = 0
			checkRight(t, c, false)
		}
		checkRight(t, append(l, l[n-1]), false)
	}
}

func TestBs1AddByHand(t *testing.T) {
	for _, c := range []struct {
		l     string
		b     string
		most  int
		want  string
		fails api.Errno
	}{
		{"", "10.0.0.0/8=50", 1, "10.0.0.0/8=50", api.OK},
		{"", "10.0.0.0/8=1", 1024, "10.0.0.0/8=1", api.OK},
		{"", "10.0.0.0/8=1099511627776", math.MaxInt, "10.0.0.0/8=1099511627776", api.OK},
		{"10.0.0.0/8=50", "10.1.0.0/16=20", 2, "10.0.0.0/8=50 10.1.0.0/16=20", api.OK},
		{"10.1.0.0/16=20", "10.0.0.0/8=50", 2, "10.0.0.0/8=50 10.1.0.0/16=20", api.OK},
		{"10.0.0.0/8=50", "10.0.0.0/7=50", 2, "10.0.0.0/7=50 10.0.0.0/8=50", api.OK},
		{"10.0.0.0/8=50", "10.0.0.0/9=50", 2, "10.0.0.0/8=50 10.0.0.0/9=50", api.OK},
		{"9.0.0.0/8=1 11.0.0.0/8=1", "10.0.0.0/8=1", 3, "9.0.0.0/8=1 10.0.0.0/8=1 11.0.0.0/8=1", api.OK},
		{"9.0.0.0/8=1 ::/0=1", "255.0.0.0/8=1", 3, "9.0.0.0/8=1 255.0.0.0/8=1 ::/0=1", api.OK},
		{"::/0=1 ::2/128=1", "::1/128=1", 3, "::/0=1 ::1/128=1 ::2/128=1", api.OK},
		{"9.0.0.0/8=1 10.0.0.0/8=1", "11.0.0.0/8=1", 3, "9.0.0.0/8=1 10.0.0.0/8=1 11.0.0.0/8=1", api.OK},
		// A ban of the same subnet: the longer one holds, however many there are.
		{"10.0.0.0/8=50", "10.0.0.0/8=40", 9, "10.0.0.0/8=50", api.OK},
		{"10.0.0.0/8=50", "10.0.0.0/8=50", 9, "10.0.0.0/8=50", api.OK},
		{"10.0.0.0/8=50", "10.0.0.0/8=60", 9, "10.0.0.0/8=60", api.OK},
		{"10.0.0.0/8=50", "10.0.0.0/8=60", 1, "10.0.0.0/8=60", api.OK},
		{"10.0.0.0/8=50", "10.0.0.0/8=60", 0, "10.0.0.0/8=60", api.OK},
		{"10.0.0.0/8=50", "10.0.0.0/8=60", -1, "10.0.0.0/8=60", api.OK},
		{"9.0.0.0/8=1 10.0.0.0/8=50 11.0.0.0/8=1", "10.0.0.0/8=51", 2, "9.0.0.0/8=1 10.0.0.0/8=51 11.0.0.0/8=1", api.OK},
		// Full.
		{"", "10.0.0.0/8=50", 0, "", api.ErrFull},
		{"", "10.0.0.0/8=50", -1, "", api.ErrFull},
		{"", "10.0.0.0/8=50", math.MinInt, "", api.ErrFull},
		{"10.0.0.0/8=50", "10.1.0.0/16=20", 1, "", api.ErrFull},
		{"10.0.0.0/8=50", "10.1.0.0/16=20", 0, "", api.ErrFull},
		{"10.0.0.0/8=50", "10.0.0.0/9=50", 1, "", api.ErrFull},
		{"10.0.0.0/8=50 11.0.0.0/8=50", "12.0.0.0/8=20", 1, "", api.ErrFull},
		{"10.0.0.0/8=50 11.0.0.0/8=50", "9.0.0.0/8=20", 2, "", api.ErrFull},
		// A ban that is not valid, full or not, of a new subnet or not.
		{"", "10.0.0.0/8=0", 1, "", api.ErrArg},
		{"", "10.0.0.0/8=-1", 1, "", api.ErrArg},
		{"", "10.0.0.0/8=1099511627777", 1, "", api.ErrArg},
		{"", "10.1.2.3/8=50", 1, "", api.ErrArg},
		{"", "10.0.0.0/8=0", 0, "", api.ErrArg},
		{"10.0.0.0/8=50", "10.0.0.0/8=0", 9, "", api.ErrArg},
		{"10.0.0.0/8=50", "10.1.0.0/16=0", 1, "", api.ErrArg},
		{"10.1.2.3/8=50", "10.1.2.3/8=50", 9, "", api.ErrArg},
		{"10.0.0.0/8=50", "::ffff:10.0.0.0/104=60", 9, "", api.ErrArg},
		// Lists that are not valid: the first ban that fits counts, and nothing else changes.
		{"10.0.0.0/8=5 10.0.0.0/8=9", "10.0.0.0/8=7", 9, "10.0.0.0/8=7 10.0.0.0/8=9", api.OK},
		{"10.0.0.0/8=9 10.0.0.0/8=5", "10.0.0.0/8=7", 9, "10.0.0.0/8=9 10.0.0.0/8=5", api.OK},
		{"11.0.0.0/8=1 9.0.0.0/8=1", "10.0.0.0/8=1", 9, "10.0.0.0/8=1 11.0.0.0/8=1 9.0.0.0/8=1", api.OK},
		{"11.0.0.0/8=1 9.0.0.0/8=1 10.0.0.0/8=1", "10.0.0.0/8=2", 3, "11.0.0.0/8=1 9.0.0.0/8=1 10.0.0.0/8=2", api.OK},
		{"9.0.0.0/8=1 8.0.0.0/8=1 12.0.0.0/8=1 11.0.0.0/8=1", "10.0.0.0/8=1", 9, "9.0.0.0/8=1 8.0.0.0/8=1 10.0.0.0/8=1 12.0.0.0/8=1 11.0.0.0/8=1", api.OK},
		{"10.0.0.0/8=-5", "10.0.0.0/8=7", 0, "10.0.0.0/8=7", api.OK},
		{"10.0.0.0/8=1099511627777", "10.0.0.0/8=7", 0, "10.0.0.0/8=1099511627777", api.OK},
		{"10.1.2.3/8=50", "10.0.0.0/8=7", 2, "10.0.0.0/8=7 10.1.2.3/8=50", api.OK},
		{"10.1.2.3/8=0 10.1.2.3/8=0", "11.0.0.0/8=7", 3, "10.1.2.3/8=0 10.1.2.3/8=0 11.0.0.0/8=7", api.OK},
	} {
		checkAdd(t, list(c.l), one(c.b), c.most, list(c.want), c.fails)
	}
}

func TestBs1AddAtEachPlace(t *testing.T) {
	all := untils(rising())
	for i, b := range all {
		l := slices.Concat(all[:i], all[i+1:])
		checkAdd(t, l, b, len(l)+1, all, api.OK)
		checkAdd(t, l, b, math.MaxInt, all, api.OK)
		checkAdd(t, l, b, len(l), nil, api.ErrFull)
		checkAdd(t, l, b, len(l)-1, nil, api.ErrFull)
		checkAdd(t, l, b, math.MinInt, nil, api.ErrFull)
	}
}

func TestBs1AddToEachBan(t *testing.T) {
	all := untils(rising())
	for i, b := range all {
		for _, most := range []int{math.MinInt, -1, 0, 1, len(all) - 1, len(all), len(all) + 1, math.MaxInt} {
			for _, until := range []int{1, b.Until, b.Until + 1, last - 1, last} {
				want := slices.Clone(all)
				want[i].Until = max(b.Until, until)
				checkAdd(t, all, held(b.Net, until), most, want, api.OK)
			}
		}
	}
}

func TestBs1AddOfWrongBans(t *testing.T) {
	all := untils(rising())
	for _, b := range wrong() {
		for _, l := range [][]api.Ban{nil, all, {b}, {b, b}, {held(b.Net, 50)}} {
			for _, most := range []int{math.MinInt, 0, len(l), len(l) + 1, math.MaxInt} {
				checkAdd(t, l, b, most, nil, api.ErrArg)
			}
		}
	}
}

// The bans that are in the list already need not be valid.
func TestBs1AddToWrongBans(t *testing.T) {
	for _, b := range wrong() {
		for _, x := range untils(rising()) {
			for most := range 5 {
				holdAdd(t, []api.Ban{b}, x, most)
				holdAdd(t, []api.Ban{b, b}, x, most)
				holdAdd(t, []api.Ban{x, b, x}, x, most)
			}
		}
	}
}

func TestBs1AddToEachFew(t *testing.T) {
	more := append(few(), list("0.0.0.0/0=9 10.0.0.0/8=4 10.0.0.0/9=2 11.0.0.0/8=8 ::/1=1")...)
	eachFew(3, func(l []api.Ban) {
		for _, b := range more {
			for most := -1; most <= 5; most++ {
				holdAdd(t, l, b, most)
			}
		}
	})
}

func TestBs1AddUpToTheLimit(t *testing.T) {
	all := series(api.MaxBans)
	var l []api.Ban
	for i, k := range rand.New(rand.NewSource(13)).Perm(len(all)) {
		x, e := bans.Add(l, all[k], api.MaxBans)
		if e != api.OK || len(x) != i+1 || !bans.Right(x) {
			t.Fatalf("ban %d: %d, and %d bans", i, e, len(x))
		}
		l = x
	}
	if !slices.Equal(l, all) {
		t.Fatal("the bans are others, or in another order")
	}
	extra := one("200.0.0.0/8=5")
	checkAdd(t, l, extra, api.MaxBans, nil, api.ErrFull)
	holdAdd(t, l, extra, api.MaxBans+1)
	holdAdd(t, l, held(l[500].Net, last), api.MaxBans)
	less, e := bans.Drop(l, l[700].Net)
	if e != api.OK || len(less) != api.MaxBans-1 {
		t.Fatalf("Drop returns %d bans and %d", len(less), e)
	}
	holdAdd(t, less, extra, api.MaxBans)
}

func TestBs1DropByHand(t *testing.T) {
	for _, c := range []struct {
		l, n, want string
		fails      api.Errno
	}{
		{"10.0.0.0/8=50", "10.0.0.0/8", "", api.OK},
		{"10.0.0.0/8=50 10.1.0.0/16=20", "10.0.0.0/8", "10.1.0.0/16=20", api.OK},
		{"10.0.0.0/8=50 10.1.0.0/16=20", "10.1.0.0/16", "10.0.0.0/8=50", api.OK},
		{"9.0.0.0/8=1 10.0.0.0/8=2 11.0.0.0/8=3", "10.0.0.0/8", "9.0.0.0/8=1 11.0.0.0/8=3", api.OK},
		{"0.0.0.0/0=1 ::/0=2", "::/0", "0.0.0.0/0=1", api.OK},
		{"0.0.0.0/0=1 ::/0=2", "0.0.0.0/0", "::/0=2", api.OK},
		{"", "10.0.0.0/8", "", api.ErrNone},
		{"", "10.1.2.3/8", "", api.ErrNone},
		{"10.0.0.0/8=50", "10.0.0.0/9", "", api.ErrNone},
		{"10.0.0.0/8=50", "10.0.0.0/7", "", api.ErrNone},
		{"10.0.0.0/8=50", "10.1.0.0/16", "", api.ErrNone},
		{"10.0.0.0/8=50", "0.0.0.0/0", "", api.ErrNone},
		{"10.0.0.0/8=50", "11.0.0.0/8", "", api.ErrNone},
		{"10.0.0.0/8=50", "10.1.2.3/8", "", api.ErrNone},
		{"10.0.0.0/8=50", "::ffff:10.0.0.0/104", "", api.ErrNone},
		{"0.0.0.0/0=1", "::/0", "", api.ErrNone},
		{"10.0.0.0/8=50 11.0.0.0/8=1", "9.0.0.0/8", "", api.ErrNone},
		// Lists that are not valid: only the first ban of exactly this subnet goes.
		{"10.0.0.0/8=5 10.0.0.0/8=9", "10.0.0.0/8", "10.0.0.0/8=9", api.OK},
		{"10.0.0.0/8=9 9.0.0.0/8=1 10.0.0.0/8=5", "10.0.0.0/8", "9.0.0.0/8=1 10.0.0.0/8=5", api.OK},
		{"11.0.0.0/8=1 10.0.0.0/8=1 9.0.0.0/8=1", "9.0.0.0/8", "11.0.0.0/8=1 10.0.0.0/8=1", api.OK},
		{"10.0.0.0/8=0", "10.0.0.0/8", "", api.OK},
		{"10.0.0.0/8=5 10.1.2.3/8=9", "10.1.2.3/8", "10.0.0.0/8=5", api.OK},
	} {
		checkDrop(t, list(c.l), net(c.n), list(c.want), c.fails)
	}
}

func TestBs1DropAtEachPlace(t *testing.T) {
	all := untils(rising())
	for i, b := range all {
		l := slices.Concat(all[:i], all[i+1:])
		checkDrop(t, all, b.Net, l, api.OK)
		checkDrop(t, l, b.Net, nil, api.ErrNone)
		checkDrop(t, []api.Ban{b}, b.Net, nil, api.OK)
	}
}

// beside are the subnets that differ from a subnet in one bit of one field.
func beside(n api.Net) []api.Net {
	l := []api.Net{{Addr: api.Addr{V6: !n.Addr.V6, Hi: n.Addr.Hi, Lo: n.Addr.Lo}, Bits: n.Bits}}
	for i := range 64 {
		hi, lo, bits := n, n, n
		hi.Addr.Hi ^= 1 << i
		lo.Addr.Lo ^= 1 << i
		bits.Bits ^= 1 << i
		l = append(l, hi, lo, bits)
	}
	return l
}

func TestBs1DropOfExactlyThisSubnet(t *testing.T) {
	all := untils(rising())
	for i, b := range all {
		for _, n := range beside(b.Net) {
			checkDrop(t, []api.Ban{b}, n, nil, api.ErrNone)
			holdDrop(t, all[i:], n)
		}
	}
	for _, n := range broken() {
		checkDrop(t, all, n, nil, api.ErrNone)
		checkDrop(t, append(slices.Clone(all), held(n, 5), held(n, 6)), n, append(slices.Clone(all), held(n, 6)), api.OK)
	}
}

func TestBs1DropOfEachFew(t *testing.T) {
	eachFew(4, func(l []api.Ban) {
		for _, s := range []string{"9.0.0.0/8", "10.0.0.0/8", "10.1.0.0/16", "10.1.2.3/8", "::/0", "0.0.0.0/0", "::/1"} {
			holdDrop(t, l, net(s))
		}
	})
}

func TestBs2UntilByHand(t *testing.T) {
	for _, c := range []struct {
		l, a      string
		now, want int
	}{
		{"10.0.0.0/8=50 10.1.0.0/16=20", "10.1.2.3", 5, 50},
		{"10.0.0.0/8=50 10.1.0.0/16=20", "10.1.2.3", 19, 50},
		{"10.0.0.0/8=50 10.1.0.0/16=20", "10.1.2.3", 20, 50},
		{"10.0.0.0/8=50 10.1.0.0/16=20", "10.1.2.3", 49, 50},
		{"10.0.0.0/8=50 10.1.0.0/16=20", "10.1.2.3", 50, 0},
		{"10.0.0.0/8=50 10.1.0.0/16=20", "10.1.2.3", 51, 0},
		{"10.0.0.0/8=20 10.1.0.0/16=50", "10.1.2.3", 5, 50},
		{"10.0.0.0/8=20 10.1.0.0/16=50", "10.2.2.3", 5, 20},
		{"10.0.0.0/8=20 10.1.0.0/16=50", "10.2.2.3", 20, 0},
		{"10.0.0.0/8=20 10.1.0.0/16=50", "11.1.2.3", 5, 0},
		{"10.0.0.0/8=20 10.1.0.0/16=50", "10.0.0.0", 5, 20},
		{"10.0.0.0/8=20 10.1.0.0/16=50", "10.255.255.255", 5, 20},
		{"10.0.0.0/8=20 10.1.0.0/16=50", "9.255.255.255", 5, 0},
		{"10.0.0.0/8=20", "10.1.2.3", 0, 20},
		{"10.0.0.0/8=20", "10.1.2.3", -1, 20},
		{"10.0.0.0/8=20", "10.1.2.3", math.MinInt, 20},
		{"10.0.0.0/8=20", "10.1.2.3", math.MaxInt, 0},
		{"10.0.0.0/8=1", "10.1.2.3", 0, 1},
		{"10.0.0.0/8=1", "10.1.2.3", 1, 0},
		{"10.0.0.0/8=1099511627776", "10.1.2.3", last - 1, last},
		{"10.0.0.0/8=1099511627776", "10.1.2.3", last, 0},
		{"10.0.0.0/8=1099511627775 10.1.0.0/16=1099511627776", "10.1.2.3", last - 1, last},
		{"10.0.0.0/8=1099511627776 10.1.0.0/16=1099511627775", "10.1.2.3", last - 1, last},
		{"", "10.1.2.3", 0, 0},
		{"", "10.1.2.3", -5, 0},
		{"0.0.0.0/0=7", "255.255.255.255", 6, 7},
		{"0.0.0.0/0=7", "::1", 6, 0},
		{"::/0=7", "::1", 6, 7},
		{"::/0=7", "10.1.2.3", 6, 0},
		{"0.0.0.0/0=7 ::/0=9", "10.1.2.3", 6, 7},
		{"0.0.0.0/0=7 ::/0=9", "::", 6, 9},
		{"2001:db8::/32=7 2001:db8::1/128=9", "2001:db8::1", 6, 9},
		{"2001:db8::/32=7 2001:db8::1/128=9", "2001:db8::2", 6, 7},
		{"2001:db8::/32=7 2001:db8::1/128=9", "2001:db9::1", 6, 0},
		// An address that is not valid is in no subnet.
		{"0.0.0.0/0=7 ::/0=9", "::ffff:10.1.2.3", 6, 0},
		// Lists that are not valid: in any order, several of one subnet, and subnets that are not valid have no addresses.
		{"10.1.0.0/16=20 10.0.0.0/8=50", "10.1.2.3", 5, 50},
		{"10.0.0.0/8=5 10.0.0.0/8=9 10.0.0.0/8=7", "10.1.2.3", 4, 9},
		{"10.0.0.0/8=9 10.0.0.0/8=5", "10.1.2.3", 6, 9},
		{"10.1.2.3/8=50 10.1.0.0/16=20", "10.1.2.3", 5, 20},
		{"10.0.0.0/8=1099511627777", "10.1.2.3", 5, last + 1},
		{"10.0.0.0/8=9223372036854775807", "10.1.2.3", last, math.MaxInt},
		// Ticks below 0: what lasts until then, lasts.
		{"10.0.0.0/8=0", "10.1.2.3", -1, 0},
		{"10.0.0.0/8=-5", "10.1.2.3", -6, -5},
		{"10.0.0.0/8=-5", "10.1.2.3", -5, 0},
		{"10.0.0.0/8=-5 10.1.0.0/16=-7", "10.1.2.3", -9, -5},
		{"10.0.0.0/8=-7 10.1.0.0/16=-5", "10.1.2.3", -9, -5},
		{"10.0.0.0/8=-7 10.1.0.0/16=-5", "10.1.2.3", math.MinInt, -5},
	} {
		checkUntil(t, list(c.l), address(c.a), c.now, c.want)
	}
	checkUntil(t, nil, api.Addr{}, 0, 0)
	checkUntil(t, []api.Ban{}, api.Addr{}, 0, 0)
}

// places are the first addresses of all subnets, those that differ from them in one bit, and some more; not all of them are valid.
func places() []api.Addr {
	l := []api.Addr{address("10.1.2.4"), address("10.255.255.255"), address("10.127.255.255"), address("11.255.255.255"), address("2001:db8:ffff:ffff:ffff:ffff:ffff:ffff")}
	for _, n := range slices.Concat(rising(), broken()) {
		l = append(l, n.Addr)
	}
	for _, n := range rising() {
		for _, x := range beside(n) {
			l = append(l, x.Addr)
		}
	}
	return l
}

func TestBs2UntilOfEachAddress(t *testing.T) {
	all := untils(rising())
	back := slices.Clone(all)
	slices.Reverse(back)
	hits := 0
	for _, a := range places() {
		for _, now := range []int{-1, 0, 1, 30, 60, 90, 100, 101, 102, last} {
			want := longest(all, a, now)
			checkUntil(t, all, a, now, want)
			checkUntil(t, back, a, now, want)
			checkUntil(t, slices.Concat(back, all), a, now, want)
			if want != 0 {
				hits++
			}
		}
	}
	if hits < 5000 {
		t.Fatalf("the test itself: only %d addresses are banned", hits)
	}
}

func TestBs2UntilOfEachBan(t *testing.T) {
	for _, b := range slices.Concat(untils(rising()), wrong()) {
		for _, x := range beside(b.Net) {
			for _, now := range []int{b.Until - 1, b.Until} {
				checkUntil(t, []api.Ban{b}, x.Addr, now, longest([]api.Ban{b}, x.Addr, now))
			}
		}
	}
}

func TestBs2UntilOfEachFew(t *testing.T) {
	eachFew(4, func(l []api.Ban) {
		for _, s := range []string{"9.0.0.0", "10.0.0.1", "10.1.2.3", "11.0.0.0", "::", "::ffff:10.1.2.3"} {
			for now := -4; now <= 8; now++ {
				checkUntil(t, l, address(s), now, longest(l, address(s), now))
			}
		}
	})
}

func TestBs2SweepByHand(t *testing.T) {
	for _, c := range []struct {
		l    string
		now  int
		want string
		gone int
	}{
		{"", 0, "", 0},
		{"", last, "", 0},
		{"10.0.0.0/8=50 10.1.0.0/16=20", 19, "10.0.0.0/8=50 10.1.0.0/16=20", 0},
		{"10.0.0.0/8=50 10.1.0.0/16=20", 20, "10.0.0.0/8=50", 1},
		{"10.0.0.0/8=50 10.1.0.0/16=20", 21, "10.0.0.0/8=50", 1},
		{"10.0.0.0/8=50 10.1.0.0/16=20", 49, "10.0.0.0/8=50", 1},
		{"10.0.0.0/8=50 10.1.0.0/16=20", 50, "", 2},
		{"10.0.0.0/8=20 10.1.0.0/16=50", 20, "10.1.0.0/16=50", 1},
		{"9.0.0.0/8=1 10.0.0.0/8=2 11.0.0.0/8=3 12.0.0.0/8=2 ::/0=3", 2, "11.0.0.0/8=3 ::/0=3", 3},
		{"9.0.0.0/8=3 10.0.0.0/8=1 11.0.0.0/8=1 12.0.0.0/8=3", 1, "9.0.0.0/8=3 12.0.0.0/8=3", 2},
		{"10.0.0.0/8=1", 0, "10.0.0.0/8=1", 0},
		{"10.0.0.0/8=1", 1, "", 1},
		{"10.0.0.0/8=1", -1, "10.0.0.0/8=1", 0},
		{"10.0.0.0/8=1", math.MinInt, "10.0.0.0/8=1", 0},
		{"10.0.0.0/8=1099511627776", last - 1, "10.0.0.0/8=1099511627776", 0},
		{"10.0.0.0/8=1099511627776", last, "", 1},
		{"10.0.0.0/8=1099511627776", math.MaxInt, "", 1},
		// Lists that are not valid: what holds stays, in the order in which it is.
		{"11.0.0.0/8=5 10.0.0.0/8=3 9.0.0.0/8=5", 3, "11.0.0.0/8=5 9.0.0.0/8=5", 1},
		{"10.0.0.0/8=5 10.0.0.0/8=5 10.0.0.0/8=1", 3, "10.0.0.0/8=5 10.0.0.0/8=5", 1},
		{"10.1.2.3/8=5 10.1.2.3/8=3", 3, "10.1.2.3/8=5", 1},
		{"10.0.0.0/8=0 10.1.0.0/16=-5", -1, "10.0.0.0/8=0", 1},
		{"10.0.0.0/8=0 10.1.0.0/16=-5", 0, "", 2},
		{"10.0.0.0/8=1099511627777", last, "10.0.0.0/8=1099511627777", 0},
	} {
		checkSweep(t, list(c.l), c.now, list(c.want), c.gone)
	}
}

func TestBs2SweepAtEachTick(t *testing.T) {
	all := untils(rising())
	back := slices.Clone(all)
	slices.Reverse(back)
	for now := -3; now <= 105; now++ {
		holdSweep(t, all, now)
		holdSweep(t, back, now)
		holdSweep(t, slices.Concat(all, wrong(), back), now)
	}
	for _, now := range outside() {
		holdSweep(t, slices.Concat(all, wrong(), back), now)
		holdSweep(t, slices.Concat(all, wrong(), back), now-1)
	}
}

func TestBs2SweepOfEachFew(t *testing.T) {
	eachFew(4, func(l []api.Ban) {
		for now := -4; now <= 8; now++ {
			holdSweep(t, l, now)
		}
	})
}

func TestBs2SweepOfMany(t *testing.T) {
	l := series(api.MaxBans)
	for _, now := range []int{0, 1, 2, 500, api.MaxBans - 1, api.MaxBans} {
		x, n := bans.Sweep(l, now)
		if n != now || len(x) != api.MaxBans-now || !slices.Equal(x, l[now:]) {
			t.Fatalf("at %d, %d bans go and %d stay", now, n, len(x))
		}
	}
}

// model is a list of bans without an order.
type model map[api.Net]int

func (m model) bans() []api.Ban {
	var l []api.Ban
	for _, n := range slices.SortedFunc(maps.Keys(m), order) {
		l = append(l, held(n, m[n]))
	}
	return l
}

// Whatever is done, one thing behind the other, a valid list stays valid and has the bans of the model.
func TestBs3ManyOperations(t *testing.T) {
	subnets := slices.Concat(rising(), broken())
	spots := places()
	for seed := range int64(12) {
		random := rand.New(rand.NewSource(seed))
		most := []int{1, 3, 20, api.MaxBans}[seed%4]
		m := model{}
		var l []api.Ban
		for i := range 3000 {
			n := subnets[random.Intn(len(subnets))]
			now := i / 10
			var x []api.Ban
			var e api.Errno
			switch random.Intn(12) {
			case 0, 1, 2, 3, 4, 5, 6:
				b := held(n, now-1+random.Intn(100))
				x, e = bans.Add(l, b, most)
				_, there := m[n]
				switch {
				case !valid(b):
					checkError(t, x, e, api.ErrArg)
				case !there && len(m) >= most:
					checkError(t, x, e, api.ErrFull)
				default:
					m[n] = max(m[n], b.Until)
				}
			case 7, 8, 9:
				x, e = bans.Drop(l, n)
				if _, there := m[n]; !there {
					checkError(t, x, e, api.ErrNone)
				}
				delete(m, n)
			default:
				before, gone := len(m), 0
				maps.DeleteFunc(m, func(_ api.Net, until int) bool { return until <= now })
				x, gone = bans.Sweep(l, now)
				if gone != before-len(m) {
					t.Fatalf("%d bans went, not %d", gone, before-len(m))
				}
			}
			if e == api.OK {
				l = x
			}
			if !slices.Equal(l, m.bans()) || !bans.Right(l) {
				t.Fatalf("step %d: %v instead of %v", i, l, m.bans())
			}
			a := spots[random.Intn(len(spots))]
			checkUntil(t, l, a, now, longest(m.bans(), a, now))
		}
	}
}

func checkError(t *testing.T, l []api.Ban, e, want api.Errno) {
	t.Helper()
	if e != want || len(l) != 0 {
		t.Fatalf("error %d with %v, not %d alone", e, l, want)
	}
}

func TestBs3ValidListsStayValid(t *testing.T) {
	n := 0
	eachFew(4, func(l []api.Ban) {
		if !right(l) {
			return
		}
		n++
		for _, b := range slices.Concat(few(), untils(rising()), wrong()) {
			if x, e := bans.Add(l, b, 9); e == api.OK {
				checkRight(t, x, true)
			}
			if x, e := bans.Drop(l, b.Net); e == api.OK {
				checkRight(t, x, true)
			}
			x, _ := bans.Sweep(l, b.Until)
			checkRight(t, x, true)
		}
	})
	if n < 20 {
		t.Fatalf("the test itself: only %d lists are valid", n)
	}
}

// All subnets of one address, in any order and with any ticks: it is banned as long as one of them lasts.
func TestBs3LongestBan(t *testing.T) {
	random := rand.New(rand.NewSource(31))
	for _, s := range []string{"10.1.2.3", "0.0.0.0", "255.255.255.255", "2001:db8::1", "::", "::a01:203", "ffff:ffff:ffff:ffff:ffff:ffff:ffff:ffff"} {
		a := netip.MustParseAddr(s)
		ends := random.Perm(a.BitLen() + 1)
		var l []api.Ban
		for _, bits := range random.Perm(a.BitLen() + 1) {
			p := netip.PrefixFrom(a, bits).Masked()
			x, e := bans.Add(l, held(api.Net{Addr: fields(p.Addr()), Bits: bits}, 10+ends[bits]), api.MaxBans)
			if e != api.OK {
				t.Fatalf("Add returns %d", e)
			}
			l = x
			checkUntil(t, l, fields(a), 5, longest(l, fields(a), 5))
		}
		checkRight(t, l, true)
		for end := 10 + a.BitLen(); end >= 10; end-- {
			for now := range end {
				checkUntil(t, l, fields(a), now, end)
			}
			for now := end; now < end+3; now++ {
				checkUntil(t, l, fields(a), now, 0)
			}
			// The longest ban goes: the next one counts.
			i := slices.IndexFunc(l, func(b api.Ban) bool { return b.Until == end })
			x, e := bans.Drop(l, l[i].Net)
			if e != api.OK {
				t.Fatalf("Drop returns %d", e)
			}
			l = x
		}
		checkUntil(t, l, fields(a), 0, 0)
	}
}

// A ban that is added never makes one shorter.
func TestBs3AddNeverShortens(t *testing.T) {
	all := untils(rising())
	for _, b := range all {
		for _, until := range []int{1, b.Until, 60, 200} {
			x, e := bans.Add(all[:20], held(b.Net, until), api.MaxBans)
			if e != api.OK {
				t.Fatalf("Add returns %d", e)
			}
			for _, n := range rising() {
				for _, now := range []int{0, 50, 150} {
					checkUntil(t, x, n.Addr, now, max(longest(all[:20], n.Addr, now), longest([]api.Ban{held(b.Net, until)}, n.Addr, now)))
				}
			}
		}
	}
}

func TestBs3SweepChangesNothingThatHolds(t *testing.T) {
	all := untils(rising())
	for now := -2; now <= 103; now++ {
		x, _ := bans.Sweep(all, now)
		checkRight(t, x, true)
		checkSweep(t, x, now, x, 0)
		for later := now; later <= 103; later += 7 {
			for _, n := range rising() {
				checkUntil(t, x, n.Addr, later, longest(all, n.Addr, later))
			}
		}
	}
	eachFew(3, func(l []api.Ban) {
		for now := -3; now <= 8; now++ {
			x, _ := bans.Sweep(l, now)
			for later := now; later <= 8; later++ {
				for _, s := range []string{"9.0.0.0", "10.0.0.1", "10.1.2.3", "::"} {
					checkUntil(t, x, address(s), later, longest(l, address(s), later))
				}
			}
		}
	})
}

// Many goroutines may ask for lists that are made of one list.
func TestBs3ManyGoroutines(t *testing.T) {
	all := untils(rising())
	l := all[:len(all)-1]
	var wait sync.WaitGroup
	for range 8 {
		wait.Go(func() {
			for _, b := range all {
				more, _ := bans.Add(l, held(b.Net, last), api.MaxBans)
				less, _ := bans.Drop(more, b.Net)
				rest, gone := bans.Sweep(l, b.Until)
				want, _ := dropped(l, b.Net)
				if want == nil {
					want = l
				}
				if !slices.Equal(less, want) || len(rest)+gone != len(l) || bans.Until(more, b.Net.Addr, 5) != last {
					t.Errorf("%v: %v, and %d and %d", b, less, len(rest), gone)
				}
			}
		})
	}
	wait.Wait()
	if !slices.Equal(l, all[:len(l)]) {
		t.Error("the list has changed")
	}
}
