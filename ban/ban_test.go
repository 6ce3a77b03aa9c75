package ban_test

import (
	"fmt"
	"math"
	"math/big"
	"net/netip"
	"regexp"
	"slices"
	"strconv"
	"strings"
	"testing"

	"doorman/api"
	"doorman/ban"
	"doorman/vary"
)

// last is the last tick.
const last = 1099511627776

func four(n uint64) api.Addr { return api.Addr{Lo: n} }

func six(hi, lo uint64) api.Addr { return api.Addr{V6: true, Hi: hi, Lo: lo} }

func net(a api.Addr, bits int) api.Net { return api.Net{Addr: a, Bits: bits} }

func held(n api.Net, until int) api.Ban { return api.Ban{Net: n, Until: until} }

// ten is the subnet 10.0.0.0/8, and doc is 2001:db8::/32.
func ten() api.Net { return net(four(0x0a000000), 8) }

func doc() api.Net { return net(six(0x20010db800000000, 0), 32) }

// place is a valid subnet, and its text.
type place struct {
	n    api.Net
	text string
}

// places are the first and the last subnets of both kinds, some inside each other, pairs of both kinds with the same fields, such as lie beside the addresses that represent one of IPv4, and ordinary ones.
func places() []place {
	return []place{
		{net(four(0), 0), "0.0.0.0/0"}, {net(four(0), 1), "0.0.0.0/1"}, {net(four(0), 8), "0.0.0.0/8"}, {net(four(0), 31), "0.0.0.0/31"}, {net(four(0), 32), "0.0.0.0/32"}, {net(four(1), 32), "0.0.0.1/32"}, {net(four(0x80000000), 1), "128.0.0.0/1"}, {net(four(0x0a000000), 7), "10.0.0.0/7"}, {ten(), "10.0.0.0/8"}, {net(four(0x0a000000), 9), "10.0.0.0/9"}, {net(four(0x0a800000), 9), "10.128.0.0/9"}, {net(four(0x0a010000), 16), "10.1.0.0/16"}, {net(four(0x0a010203), 32), "10.1.2.3/32"}, {net(four(0xc0a80100), 24), "192.168.1.0/24"}, {net(four(0xfffffffe), 31), "255.255.255.254/31"}, {net(four(0xffffffff), 32), "255.255.255.255/32"},
		{net(six(0, 0), 0), "::/0"}, {net(six(0, 0), 8), "::/8"}, {net(six(0, 0), 32), "::/32"}, {net(six(0, 0), 128), "::/128"}, {net(six(0, 1), 128), "::1/128"}, {net(six(1<<63, 0), 1), "8000::/1"}, {net(six(1, 0), 64), "0:0:0:1::/64"}, {net(six(0, 1<<63), 65), "::8000:0:0:0/65"}, {net(six(0x0a00000000000000, 0), 8), "a00::/8"}, {doc(), "2001:db8::/32"}, {net(six(0x20010db8aaaa0000, 0), 48), "2001:db8:aaaa::/48"}, {net(six(0x20010db800000000, 1), 128), "2001:db8::1/128"}, {net(six(0x0001000200030004, 0x0005000600070008), 128), "1:2:3:4:5:6:7:8/128"}, {net(six(0, 0x0a000000), 104), "::a00:0/104"}, {net(six(0, 0xffc000000000), 90), "::ffc0:0:0/90"}, {net(six(0, 0xfffe00000000), 95), "::fffe:0:0/95"}, {net(six(0, 0xfffe0a000000), 104), "::fffe:a00:0/104"}, {net(six(1, 0xffff0a000000), 104), "::1:0:ffff:a00:0/104"}, {net(six(math.MaxUint64, math.MaxUint64), 128), "ffff:ffff:ffff:ffff:ffff:ffff:ffff:ffff/128"},
	}
}

// broken are subnets that are not valid: bits behind the first ones, wrong numbers of bits, and wrong addresses.
func broken() []api.Net {
	return []api.Net{
		net(four(1), 0), net(four(1), 31), net(four(0x0a000001), 8), net(four(0x0a010203), 8), net(four(0x0a000000), 6), net(four(0x80000000), 0), net(four(0xffffffff), 31),
		net(four(0), -1), net(four(0), 33), net(four(0), 128), net(four(0x0a000000), -8), net(four(0x0a000000), 33), net(four(0x0a000000), 104), net(four(0), math.MinInt), net(four(0), math.MaxInt), net(four(0x0a000000), 1<<32+8),
		net(four(1<<32), 0), net(four(1<<32), 32), net(four(1<<32|0x0a000000), 8), net(api.Addr{Hi: 1}, 0), net(api.Addr{Hi: 1, Lo: 0x0a000000}, 8), net(api.Addr{Hi: 0x20010db800000000}, 32), net(four(math.MaxUint64), 32),
		net(six(0, 1), 0), net(six(0, 1), 127), net(six(0x20010db800000000, 1), 32), net(six(1, 0), 63), net(six(0, 1<<63), 64), net(six(0, 0), -1), net(six(0, 0), 129), net(six(0x20010db800000000, 0), 256), net(six(0, 0), math.MinInt), net(six(0, 0), math.MaxInt),
		net(six(0, 0xffff00000000), 96), net(six(0, 0xffff0a000000), 104), net(six(0, 0xffff0a000000), 8), net(six(0, 0xffff0a010203), 128), net(six(0, 0xffffffffffff), 128),
	}
}

// ticks are until when a valid ban may last.
func ticks() []int {
	return []int{1, 2, 3, 8, 9, 10, 11, 19, 99, 100, 101, 499, 500, 501, 1000, 65535, 65536, 1<<30 - 1, 1 << 30, 1<<31 - 1, 1 << 31, 1<<32 - 1, 1 << 32, 1<<32 + 1, 1 << 39, 999999999999, 1000000000000, last - 1, last}
}

// outside are numbers until which no valid ban lasts: some of them may be modulo 2^32, 2^40 or 2^41.
func outside() []int {
	return []int{math.MinInt, math.MinInt + 1, math.MinInt + 500, -last - 1, -last, -last + 1, -last + 500, -1 << 32, -1<<32 + 500, -500, -2, -1, 0, last + 1, last + 2, last + 500, 2*last - 1, 2 * last, 2*last + 1, 2*last + 500, 1<<48 + 500, 1 << 62, 1<<62 + 500, math.MaxInt - 1, math.MaxInt}
}

// numbers are all of them, rising.
func numbers() []int {
	l := slices.Concat(ticks(), outside())
	slices.Sort(l)
	return l
}

// bans are valid.
func bans() []api.Ban {
	var l []api.Ban
	for _, p := range places() {
		for _, n := range ticks() {
			l = append(l, held(p.n, n))
		}
	}
	return l
}

// bad are bans whose subnet, or whose Until, or both are not valid.
func bad() []api.Ban {
	var l []api.Ban
	for _, n := range outside() {
		for _, p := range places() {
			l = append(l, held(p.n, n))
		}
	}
	for _, m := range broken() {
		for _, n := range numbers() {
			l = append(l, held(m, n))
		}
	}
	return l
}

// digits are the bits of an address as a text, the highest first: texts tell what is to come out.
func digits(a api.Addr) string {
	if a.V6 {
		return fmt.Sprintf("%064b%064b", a.Hi, a.Lo)
	}
	return fmt.Sprintf("%032b", a.Lo)
}

func validAddr(a api.Addr) bool {
	if a.V6 {
		return !strings.HasPrefix(digits(a), strings.Repeat("0", 80)+strings.Repeat("1", 16))
	}
	return a.Hi == 0 && len(digits(a)) == 32
}

func validNet(n api.Net) bool {
	d := digits(n.Addr)
	return validAddr(n.Addr) && n.Bits >= 0 && n.Bits <= len(d) && !strings.Contains(d[n.Bits:], "1")
}

func valid(b api.Ban) bool {
	return validNet(b.Net) && big.NewInt(int64(b.Until)).Sign() == 1 && big.NewInt(int64(b.Until)).Cmp(big.NewInt(last)) <= 0
}

// inside tells whether an address is in a subnet.
func inside(n api.Net, a api.Addr) bool {
	return validNet(n) && validAddr(a) && n.Addr.V6 == a.V6 && strings.HasPrefix(digits(a), digits(n.Addr)[:n.Bits])
}

// below compares numbers that have no limits.
func below(a, b int) bool { return big.NewInt(int64(a)).Cmp(big.NewInt(int64(b))) < 0 }

// flippedAddr are the addresses that differ from an address in one bit, or in the kind; not all of them are valid.
func flippedAddr(a api.Addr) []api.Addr {
	l := []api.Addr{{V6: !a.V6, Hi: a.Hi, Lo: a.Lo}}
	for i := range 64 {
		l = append(l, api.Addr{V6: a.V6, Hi: a.Hi ^ 1<<i, Lo: a.Lo}, api.Addr{V6: a.V6, Hi: a.Hi, Lo: a.Lo ^ 1<<i})
	}
	return l
}

// flipped are the bans that differ from a ban in one bit of one field; not all of them are valid.
func flipped(b api.Ban) []api.Ban {
	var l []api.Ban
	for _, a := range flippedAddr(b.Net.Addr) {
		l = append(l, held(net(a, b.Net.Bits), b.Until))
	}
	for i := range 64 {
		l = append(l, held(net(b.Net.Addr, b.Net.Bits^1<<i), b.Until), held(b.Net, b.Until^1<<i))
	}
	return l
}

// addresses are the first ones of all subnets, valid or not, and those beside them.
func addresses() []api.Addr {
	l := []api.Addr{four(0x0affffff), four(0x0b000000), four(0x09ffffff), four(0x0a01ffff), six(0x20010db8ffffffff, math.MaxUint64), six(0x20010db900000000, 0), six(0, 0x0a010203), six(0, 0xffff0a010203), six(math.MaxUint64, 0)}
	for _, p := range places() {
		l = append(l, p.n.Addr)
	}
	for _, n := range broken() {
		l = append(l, n.Addr)
	}
	return l
}

var line = regexp.MustCompile(`\A([^ ]+) until ([1-9][0-9]*)\z`)

// read is what Parse must return: the library reads the subnet and the number, and writes the subnet.
func read(s string) (api.Ban, bool) {
	found := line.FindStringSubmatch(s)
	if found == nil {
		return api.Ban{}, false
	}
	p, err := netip.ParsePrefix(found[1])
	if err != nil || p.Addr().Is4In6() || p != p.Masked() || p.String() != found[1] {
		return api.Ban{}, false
	}
	n, err := strconv.Atoi(found[2])
	if err != nil || n > last {
		return api.Ban{}, false
	}
	var whole [16]byte
	if p.Addr().Is4() {
		b := p.Addr().As4()
		copy(whole[12:], b[:])
	} else {
		whole = p.Addr().As16()
	}
	a := api.Addr{V6: p.Addr().Is6()}
	for i := range 8 {
		a.Hi = a.Hi<<8 | uint64(whole[i])
		a.Lo = a.Lo<<8 | uint64(whole[8+i])
	}
	return held(net(a, p.Bits()), n), true
}

func checkRight(t *testing.T, b api.Ban, want bool) {
	t.Helper()
	if got := ban.Right(b); got != want {
		t.Fatalf("Right(%+v) is %v", b, got)
	}
}

func checkLives(t *testing.T, b api.Ban, now int, want bool) {
	t.Helper()
	if got := ban.Lives(b, now); got != want {
		t.Fatalf("Lives(%+v, %d) is %v", b, now, got)
	}
}

func checkJoin(t *testing.T, a, b, want api.Ban) {
	t.Helper()
	if got := ban.Join(a, b); got != want {
		t.Fatalf("Join(%+v, %+v) is %+v, not %+v", a, b, got, want)
	}
}

func checkHits(t *testing.T, b api.Ban, a api.Addr, now int, want bool) {
	t.Helper()
	if got := ban.Hits(b, a, now); got != want {
		t.Fatalf("Hits(%+v, %+v, %d) is %v", b, a, now, got)
	}
}

func checkText(t *testing.T, b api.Ban, want string) {
	t.Helper()
	if got := ban.Text(b); got != want {
		t.Fatalf("Text(%+v) is %q, not %q", b, got, want)
	}
}

func checkParse(t *testing.T, s string, want api.Ban, ok bool) {
	t.Helper()
	if got, good := ban.Parse(s); got != want || good != ok {
		t.Fatalf("Parse(%.90q) is %+v, %v, not %+v, %v", s, got, good, want, ok)
	}
}

// checkRead holds Parse against read, and tells whether the text is the line of a ban.
func checkRead(t *testing.T, s string) bool {
	t.Helper()
	want, ok := read(s)
	checkParse(t, s, want, ok)
	return ok
}

func TestBa1RightByHand(t *testing.T) {
	for _, c := range []struct {
		b    api.Ban
		want bool
	}{
		{held(ten(), 500), true}, {held(ten(), 1), true}, {held(ten(), last-1), true}, {held(ten(), last), true}, {held(api.Net{}, 1), true}, {held(api.Net{}, last), true}, {held(net(four(0xffffffff), 32), 7), true}, {held(doc(), 500), true}, {held(net(six(0, 0), 0), 1), true}, {held(net(six(0, 1), 128), last), true},
		{api.Ban{}, false}, {held(ten(), 0), false}, {held(ten(), -1), false}, {held(ten(), -500), false}, {held(ten(), last+1), false}, {held(ten(), last+500), false}, {held(ten(), math.MaxInt), false}, {held(ten(), math.MinInt), false}, {held(doc(), 0), false}, {held(doc(), last+1), false}, {held(doc(), -1), false},
		{held(net(four(0x0a010203), 8), 500), false}, {held(net(four(0x0a000000), 33), 500), false}, {held(net(four(0x0a000000), -1), 500), false}, {held(net(four(1<<32), 8), 500), false}, {held(net(api.Addr{Hi: 1}, 8), 500), false}, {held(net(six(0, 1), 127), 500), false}, {held(net(six(0, 0), 129), 1), false}, {held(net(six(0, 0xffff0a000000), 104), last), false}, {held(net(four(1), 0), 0), false}, {held(net(four(0), 33), last+1), false},
	} {
		checkRight(t, c.b, c.want)
	}
}

func TestBa1RightOfMany(t *testing.T) {
	for _, b := range bans() {
		checkRight(t, b, true)
	}
	for _, b := range bad() {
		checkRight(t, b, false)
	}
}

// Each number beside the limits, for subnets of both kinds.
func TestBa1RightOfEachTick(t *testing.T) {
	for _, n := range []api.Net{{}, ten(), net(six(0, 0), 0), doc()} {
		for i := -2000; i <= 2000; i++ {
			checkRight(t, held(n, i), i >= 1)
			checkRight(t, held(n, last+i), i <= 0)
		}
	}
}

func TestBa1RightOfEachBit(t *testing.T) {
	for _, p := range places() {
		for _, until := range []int{1, 500, last} {
			for _, b := range flipped(held(p.n, until)) {
				checkRight(t, b, valid(b))
			}
		}
	}
}

func TestBa1LivesByHand(t *testing.T) {
	for _, c := range []struct {
		until, now int
		want       bool
	}{
		{500, 499, true}, {500, 500, false}, {500, 501, false}, {500, 0, true}, {500, 1, true}, {500, last, false}, {1, 0, true}, {1, 1, false}, {1, 2, false}, {last, last - 1, true}, {last, last, false}, {last, last + 1, false}, {last, 0, true},
		{0, 0, false}, {0, 1, false}, {0, -1, true}, {1, -1, true}, {500, -1, true}, {500, math.MinInt, true}, {500, math.MaxInt, false}, {-1, 0, false}, {-1, -1, false}, {-1, -2, true}, {last + 1, last, true}, {last + 1, last + 1, false}, {math.MaxInt, math.MaxInt - 1, true}, {math.MaxInt, math.MaxInt, false}, {math.MaxInt, math.MinInt, true}, {math.MinInt, math.MaxInt, false}, {math.MinInt, math.MinInt, false}, {math.MinInt + 1, math.MinInt, true},
	} {
		checkLives(t, held(ten(), c.until), c.now, c.want)
		checkLives(t, held(doc(), c.until), c.now, c.want)
	}
}

// The tick alone decides: of the subnet nothing is asked.
func TestBa1LivesOfMany(t *testing.T) {
	l := broken()
	for _, p := range places() {
		l = append(l, p.n)
	}
	for _, until := range numbers() {
		for _, now := range numbers() {
			for _, n := range l {
				checkLives(t, held(n, until), now, below(now, until))
			}
		}
	}
}

func TestBa1JoinByHand(t *testing.T) {
	half, doc := net(four(0x0a000000), 9), doc()
	for _, c := range []struct{ a, b, want api.Ban }{
		{held(ten(), 500), held(ten(), 900), held(ten(), 900)}, {held(ten(), 900), held(ten(), 500), held(ten(), 900)}, {held(ten(), 500), held(ten(), 500), held(ten(), 500)}, {held(ten(), 1), held(ten(), 2), held(ten(), 2)}, {held(ten(), last), held(ten(), 1), held(ten(), last)}, {held(ten(), last-1), held(ten(), last), held(ten(), last)}, {held(doc, 500), held(doc, 900), held(doc, 900)}, {held(doc, 900), held(doc, 500), held(doc, 900)},
		{held(ten(), 500), held(half, 900), held(ten(), 500)}, {held(half, 500), held(ten(), 900), held(half, 500)}, {held(ten(), 500), held(net(four(0x0b000000), 8), 900), held(ten(), 500)}, {held(ten(), 500), held(doc, 900), held(ten(), 500)}, {held(doc, 500), held(ten(), 900), held(doc, 500)}, {held(api.Net{}, 500), held(net(six(0, 0), 0), 900), held(api.Net{}, 500)}, {held(net(six(0, 0), 0), 500), held(api.Net{}, 900), held(net(six(0, 0), 0), 500)}, {held(net(six(0x20010db800000000, 0), 128), 5), held(net(six(0x20010db800000000, 1), 128), 9), held(net(six(0x20010db800000000, 0), 128), 5)}, {held(ten(), 500), api.Ban{Until: 999}, held(ten(), 500)}, {held(ten(), 900), held(half, 500), held(ten(), 900)},
		{held(ten(), 0), held(ten(), 500), held(ten(), 500)}, {held(ten(), 500), held(ten(), 0), held(ten(), 500)}, {held(ten(), -5), held(ten(), -3), held(ten(), -3)}, {held(ten(), 500), held(ten(), -900), held(ten(), 500)}, {held(ten(), 500), held(ten(), last+1), held(ten(), last+1)}, {held(ten(), math.MaxInt), held(ten(), 5), held(ten(), math.MaxInt)}, {held(ten(), math.MinInt), held(ten(), math.MaxInt), held(ten(), math.MaxInt)}, {held(ten(), math.MinInt), held(ten(), math.MinInt), held(ten(), math.MinInt)},
		{held(net(four(1), 8), 5), held(net(four(1), 8), 9), held(net(four(1), 8), 9)}, {held(net(four(1), 8), 5), held(net(four(0), 8), 9), held(net(four(1), 8), 5)}, {held(net(four(0), -1), 5), held(net(four(0), -1), 9), held(net(four(0), -1), 9)}, {held(net(four(0), -1), 5), held(net(four(0), 0), 9), held(net(four(0), -1), 5)}, {held(net(api.Addr{Hi: 1}, 0), 5), held(api.Net{}, 9), held(net(api.Addr{Hi: 1}, 0), 5)}, {api.Ban{}, api.Ban{}, api.Ban{}}, {api.Ban{}, held(api.Net{}, 9), held(api.Net{}, 9)}, {api.Ban{}, held(ten(), 9), api.Ban{}},
	} {
		checkJoin(t, c.a, c.b, c.want)
	}
}

// Two bans of one subnet, valid or not: each number meets each.
func TestBa1JoinOfEachPair(t *testing.T) {
	l := broken()
	for _, p := range places() {
		l = append(l, p.n)
	}
	for _, n := range l {
		for _, one := range numbers() {
			for _, other := range numbers() {
				most := one
				if below(one, other) {
					most = other
				}
				checkJoin(t, held(n, one), held(n, other), held(n, most))
			}
		}
	}
}

// Of two bans whose subnets differ, however little, the second one changes nothing.
func TestBa1JoinOfOtherSubnets(t *testing.T) {
	l := broken()
	for _, p := range places() {
		l = append(l, p.n)
	}
	for _, m := range l {
		for _, n := range l {
			if m != n {
				checkJoin(t, held(m, 500), held(n, 900), held(m, 500))
				checkJoin(t, held(m, 900), held(n, 500), held(m, 900))
			}
		}
		for _, b := range flipped(held(m, 900)) {
			if b.Net != m {
				checkJoin(t, held(m, 500), b, held(m, 500))
				b.Until = 500
				checkJoin(t, b, held(m, 900), b)
			}
		}
	}
}

func TestBa1HitsByHand(t *testing.T) {
	b, one, high := held(ten(), 500), held(net(four(0x0a010203), 32), 500), held(doc(), 500)
	for _, c := range []struct {
		b    api.Ban
		a    api.Addr
		now  int
		want bool
	}{
		{b, four(0x0a000000), 499, true}, {b, four(0x0a010203), 0, true}, {b, four(0x0affffff), 3, true}, {b, four(0x0a010203), 500, false}, {b, four(0x0a010203), 501, false}, {b, four(0x0a010203), last, false}, {b, four(0x0b000000), 3, false}, {b, four(0x09ffffff), 3, false}, {b, four(0x0b000000), 500, false}, {b, six(0x0a00000000000000, 0), 3, false}, {b, six(0, 0x0a010203), 3, false},
		{one, four(0x0a010203), 499, true}, {one, four(0x0a010203), 500, false}, {one, four(0x0a010202), 499, false}, {one, four(0x0a010204), 499, false}, {held(api.Net{}, 1), four(0xffffffff), 0, true}, {held(api.Net{}, 1), four(0xffffffff), 1, false}, {held(api.Net{}, last), four(0), last - 1, true}, {held(api.Net{}, last), four(0), last, false}, {held(api.Net{}, 9), six(0, 0), 3, false},
		{high, six(0x20010db800000000, 0), 499, true}, {high, six(0x20010db8ffffffff, math.MaxUint64), 0, true}, {high, six(0x20010db800000000, 0), 500, false}, {high, six(0x20010db900000000, 0), 3, false}, {high, six(0x20010db7ffffffff, math.MaxUint64), 3, false}, {high, four(0x20010db8), 3, false}, {held(net(six(0, 0), 0), 9), six(math.MaxUint64, math.MaxUint64), 8, true}, {held(net(six(0, 0), 0), 9), six(math.MaxUint64, math.MaxUint64), 9, false}, {held(net(six(0, 0), 0), 9), four(0), 8, false}, {held(net(six(0, 0xffc000000000), 90), 9), four(0x0a010203), 8, false},
		{b, four(1<<32 | 0x0a010203), 3, false}, {b, api.Addr{Hi: 1, Lo: 0x0a010203}, 3, false}, {held(api.Net{}, 9), four(1 << 32), 3, false}, {held(net(six(0, 0), 0), 9), six(0, 0xffff0a010203), 3, false}, {b, six(0, 0xffff0a010203), 3, false},
		{held(net(four(0x0a010203), 8), 9), four(0x0a010203), 3, false}, {held(net(four(0), -1), 9), four(0), 3, false}, {held(net(four(0), 33), 9), four(0), 3, false}, {held(net(six(0, 0), 129), 9), six(0, 0), 3, false}, {held(net(six(0, 0xffff0a000000), 104), 9), four(0x0a010203), 3, false}, {held(net(six(0, 0xffff0a000000), 104), 9), six(0, 0xffff0a010203), 3, false}, {held(net(four(1<<32), 32), 9), four(1 << 32), 3, false},
		{held(ten(), 0), four(0x0a010203), 0, false}, {held(ten(), -1), four(0x0a010203), 0, false}, {held(ten(), 0), four(0x0a010203), -1, true}, {b, four(0x0a010203), -1, true}, {b, four(0x0a010203), math.MinInt, true}, {b, four(0x0a010203), math.MaxInt, false}, {held(ten(), last+1), four(0x0a010203), last, true}, {held(ten(), math.MaxInt), four(0x0a010203), math.MaxInt - 1, true}, {held(ten(), math.MaxInt), four(0x0a010203), math.MaxInt, false}, {held(ten(), math.MinInt), four(0x0a010203), math.MaxInt, false}, {api.Ban{}, four(0), 0, false},
	} {
		checkHits(t, c.b, c.a, c.now, c.want)
	}
}

func TestBa1HitsOfMany(t *testing.T) {
	nets := broken()
	for _, p := range places() {
		nets = append(nets, p.n)
	}
	hits := 0
	for _, n := range nets {
		for _, a := range addresses() {
			in := inside(n, a)
			if in {
				hits++
			}
			for _, until := range []int{math.MinInt, -1, 0, 1, 2, 500, last - 1, last, last + 1, math.MaxInt} {
				for _, now := range []int{math.MinInt, -1, 0, 1, 2, 499, 500, 501, last - 1, last, last + 1, math.MaxInt} {
					checkHits(t, held(n, until), a, now, in && below(now, until))
				}
			}
		}
	}
	if hits < 200 {
		t.Fatalf("the test itself: only %d addresses are in a subnet", hits)
	}
}

// Each of the first bits decides, and none of the others does (unless the address then is not valid).
func TestBa1HitsOfEachBit(t *testing.T) {
	for _, p := range places() {
		for _, a := range flippedAddr(p.n.Addr) {
			checkHits(t, held(p.n, 500), a, 499, inside(p.n, a))
			checkHits(t, held(p.n, 500), a, 500, false)
		}
	}
}

func TestBa2TextByHand(t *testing.T) {
	for _, c := range []struct {
		b    api.Ban
		want string
	}{
		{held(ten(), 500), "10.0.0.0/8 until 500"}, {held(ten(), 1), "10.0.0.0/8 until 1"}, {held(ten(), last), "10.0.0.0/8 until 1099511627776"}, {held(ten(), last-1), "10.0.0.0/8 until 1099511627775"}, {held(api.Net{}, 10), "0.0.0.0/0 until 10"}, {held(net(four(0x0a010203), 32), 7), "10.1.2.3/32 until 7"}, {held(net(four(0xffffffff), 32), 1000), "255.255.255.255/32 until 1000"},
		{held(doc(), 500), "2001:db8::/32 until 500"}, {held(net(six(0, 0), 0), 1), "::/0 until 1"}, {held(net(six(0, 1), 128), last), "::1/128 until 1099511627776"}, {held(net(six(0, 0x0a000000), 104), 5), "::a00:0/104 until 5"}, {held(net(six(math.MaxUint64, math.MaxUint64), 128), 100), "ffff:ffff:ffff:ffff:ffff:ffff:ffff:ffff/128 until 100"},
		{api.Ban{}, ""}, {held(ten(), 0), ""}, {held(ten(), -1), ""}, {held(ten(), last+1), ""}, {held(ten(), math.MinInt), ""}, {held(ten(), math.MaxInt), ""}, {held(doc(), 0), ""}, {held(doc(), last+1), ""}, {held(net(four(0x0a010203), 8), 500), ""}, {held(net(four(0), -1), 500), ""}, {held(net(four(0), 33), 500), ""}, {held(net(four(1<<32), 32), 500), ""}, {held(net(api.Addr{Hi: 1}, 32), 500), ""}, {held(net(six(0, 1), 127), 500), ""}, {held(net(six(0, 0), 129), 500), ""}, {held(net(six(0, 0xffff0a000000), 104), 500), ""}, {held(net(four(1), 0), 0), ""},
	} {
		checkText(t, c.b, c.want)
	}
}

func TestBa2TextOfMany(t *testing.T) {
	for _, p := range places() {
		for _, n := range ticks() {
			checkText(t, held(p.n, n), p.text+" until "+strconv.Itoa(n))
		}
	}
}

func TestBa2TextOfEachTick(t *testing.T) {
	for i := -2000; i <= 2000; i++ {
		for _, until := range []int{i, last + i} {
			low, high := "", ""
			if until >= 1 && until <= last {
				low, high = fmt.Sprintf("10.0.0.0/8 until %d", until), fmt.Sprintf("2001:db8::/32 until %d", until)
			}
			checkText(t, held(ten(), until), low)
			checkText(t, held(doc(), until), high)
		}
	}
}

func TestBa2TextOfNoBan(t *testing.T) {
	for _, b := range bad() {
		checkText(t, b, "")
	}
}

func TestBa2ParseByHand(t *testing.T) {
	for _, c := range []struct {
		s    string
		want api.Ban
	}{
		{"10.0.0.0/8 until 500", held(ten(), 500)}, {"10.0.0.0/8 until 1", held(ten(), 1)}, {"10.0.0.0/8 until 10", held(ten(), 10)}, {"10.0.0.0/8 until 1099511627775", held(ten(), last-1)}, {"10.0.0.0/8 until 1099511627776", held(ten(), last)}, {"0.0.0.0/0 until 1", held(api.Net{}, 1)}, {"0.0.0.0/32 until 9", held(net(four(0), 32), 9)}, {"10.1.2.3/32 until 7", held(net(four(0x0a010203), 32), 7)}, {"255.255.255.255/32 until 1", held(net(four(0xffffffff), 32), 1)}, {"128.0.0.0/1 until 999999999999", held(net(four(0x80000000), 1), 999999999999)},
		{"::/0 until 1", held(net(six(0, 0), 0), 1)}, {"::1/128 until 500", held(net(six(0, 1), 128), 500)}, {"2001:db8::/32 until 1099511627776", held(doc(), last)}, {"::a00:0/104 until 5", held(net(six(0, 0x0a000000), 104), 5)}, {"::ffc0:0:0/90 until 5", held(net(six(0, 0xffc000000000), 90), 5)}, {"1:2:3:4:5:6:7:8/128 until 12", held(net(six(0x0001000200030004, 0x0005000600070008), 128), 12)},
	} {
		checkParse(t, c.s, c.want, true)
	}
}

func TestBa2ParseOfNoLine(t *testing.T) {
	for _, s := range []string{
		"", " ", "  ", "until", " until ", "-", "x", "500", "10.0.0.0/8", "10.0.0.0/8 ", "10.0.0.0/8 until", "10.0.0.0/8 until ", "10.0.0.0/8 500", "until 500", " until 500", "x until 500", "- until 500", "10.0.0.0/8 until x", "10.0.0.0/8 until -", "10.0.0.0/8  500", "500 until 10.0.0.0/8", "until 10.0.0.0/8 500", "10.0.0.0/8 500 until", "ban 10.0.0.0/8 until 500",
		"10.0.0.0/8  until 500", "10.0.0.0/8 until  500", " 10.0.0.0/8 until 500", "10.0.0.0/8 until 500 ", "10.0.0.0/8 until 500\n", "\n10.0.0.0/8 until 500", "10.0.0.0/8\tuntil\t500", "10.0.0.0/8\tuntil 500", "10.0.0.0/8 until\n500", "10.0.0.0/8\u00a0until 500", "10.0.0.0/8 until 500\x00", "10.0.0.0/8 until 500 500", "10.0.0.0/8 until 500 until 500", "10.0.0.0/8 until until 500", "10.0.0.0/8 10.0.0.0/8 until 500", "10.0.0.0/8 until 500\n10.0.0.0/8 until 500", "10.0.0.0/8until 500", "10.0.0.0/8 until500", "10.0.0.0/8,until,500", "10.0.0.0/8 until 500;",
		"10.0.0.0/8 till 500", "10.0.0.0/8 Until 500", "10.0.0.0/8 UNTIL 500", "10.0.0.0/8 unti 500", "10.0.0.0/8 untill 500", "10.0.0.0/8 till 5", "10.0.0.0/8 - 500", "10.0.0.0/8 to 500", "10.0.0.0/8 until: 500", "10.0.0.0/8 until=500",
		"10.0.0.0/8 until 0", "10.0.0.0/8 until 00", "10.0.0.0/8 until -0", "10.0.0.0/8 until -1", "10.0.0.0/8 until -500", "10.0.0.0/8 until +500", "10.0.0.0/8 until 05", "10.0.0.0/8 until 0500", "10.0.0.0/8 until 1099511627777", "10.0.0.0/8 until 1099511628276", "10.0.0.0/8 until 2199023255552", "10.0.0.0/8 until 10995116277760", "10.0.0.0/8 until 4611686018427387904", "10.0.0.0/8 until 9223372036854775807", "10.0.0.0/8 until 18446744073709551616", "10.0.0.0/8 until 18446744073709552116", "10.0.0.0/8 until 0x5", "10.0.0.0/8 until 5a", "10.0.0.0/8 until a", "10.0.0.0/8 until 5.0", "10.0.0.0/8 until 5e1", "10.0.0.0/8 until 5_0", "10.0.0.0/8 until 1,000", "10.0.0.0/8 until \u0665",
		"10.0.0.1/8 until 5", "10.1.2.3/8 until 5", "10.1.2.3/31 until 5", "0.0.0.1/0 until 5", "10.0.0.0 until 5", "10.0.0.1 until 5", "0.0.0.0 until 5", "10.0.0.0/ until 5", "10.0.0.0/08 until 5", "10.0.0.0/33 until 5", "10.0.0.0/-1 until 5", "10.0.0.0/+8 until 5", "10.0.0.0/8/8 until 5", "/8 until 5", "010.0.0.0/8 until 5", "10.0.0/8 until 5", "10/8 until 5", "256.0.0.0/8 until 5", "0.0.0.0/00 until 5", "10.0.0.0/255.0.0.0 until 5",
		":: until 5", "::1 until 5", "::1/127 until 5", "::/129 until 5", "::/00 until 5", "2001:DB8::/32 until 5", "2001:0db8::/32 until 5", "2001:db8:0::/32 until 5", "2001:db8:0:0:0:0:0:0/32 until 5", "2001:db8::0/32 until 5", "2001:db8::1/32 until 5", "0:0:0:0:0:0:0:1/128 until 5", "0::1/128 until 5", "::0.0.0.1/128 until 5", "::10.0.0.0/104 until 5", "::A00:0/104 until 5", "1:2:3:4:5:6:0.7.0.8/128 until 5", "[::1]/128 until 5", "::1%1/128 until 5", "::g/128 until 5",
		"::ffff:10.0.0.0/104 until 5", "::ffff:a00:0/104 until 5", "::ffff:10.0.0.0/8 until 5", "::ffff:0:0/96 until 5", "::ffff:10.1.2.3 until 5", "::ffff:10.1.2.3/128 until 5", "::ffff:0:0/95 until 5", "::ffff:0:0/90 until 5",
		"10.0.0.0:80 until 5", "10.0.0.0/8:80 until 5", "[::1]:80 until 5",
	} {
		checkParse(t, s, api.Ban{}, false)
	}
}

func TestBa2ParseOfEachTick(t *testing.T) {
	for _, p := range []place{{ten(), "10.0.0.0/8"}, {doc(), "2001:db8::/32"}, {api.Net{}, "0.0.0.0/0"}} {
		for i := -2000; i <= 2000; i++ {
			for _, until := range []int{i, last + i} {
				number := strconv.Itoa(until)
				if until >= 1 && until <= last {
					checkParse(t, p.text+" until "+number, held(p.n, until), true)
				} else {
					checkParse(t, p.text+" until "+number, api.Ban{}, false)
				}
				checkParse(t, p.text+" until 0"+number, api.Ban{}, false)
				checkParse(t, p.text+" until -"+number, api.Ban{}, false)
				checkParse(t, p.text+" until +"+number, api.Ban{}, false)
				checkParse(t, p.text+" until "+number+".", api.Ban{}, false)
				checkParse(t, p.text+" until"+number, api.Ban{}, false)
			}
		}
	}
}

// Each number of bits behind an address: only what Text writes is read.
func TestBa2ParseOfEachNumberOfBits(t *testing.T) {
	for _, c := range []struct {
		a    string
		want int
	}{
		// So many numbers leave no bit of the address behind the first ones.
		{"0.0.0.0", 33}, {"10.0.0.0", 26}, {"10.1.2.3", 1}, {"255.255.255.255", 1}, {"::", 129}, {"::1", 1}, {"2001:db8::", 100}, {"2001:DB8::", 0}, {"::ffff:0:0", 0}, {"::ffff:10.0.0.0", 0}, {"::ffff:a00:0", 0}, {"::fffe:0:0", 34}, {"::a00:0", 26}, {"::10.0.0.0", 0}, {"x", 0}, {"", 0},
	} {
		accepted := 0
		for n := -5; n < 300; n++ {
			if checkRead(t, c.a+"/"+strconv.Itoa(n)+" until 5") {
				accepted++
			}
			checkRead(t, c.a+"/0"+strconv.Itoa(n)+" until 5")
			checkRead(t, c.a+strconv.Itoa(n)+" until 5")
		}
		if accepted != c.want {
			t.Fatalf("%d numbers of bits behind %q are read", accepted, c.a)
		}
	}
}

// Each way to lay words beside each other, with one, none or several blanks between.
func TestBa2ParseOfEachRow(t *testing.T) {
	texts := []string{"", "10.0.0.0/8", "::/0", "10.0.0.0", "until", "Until", "5", "0", "05"}
	between := []string{" ", "", "  ", "\t", "\n", ",", "/"}
	accepted := 0
	for _, a := range texts {
		for _, b := range texts {
			for _, c := range texts {
				for _, one := range between {
					for _, other := range between {
						for _, end := range []string{"", " ", "\n", " until", " 5"} {
							if checkRead(t, a+one+b+other+c+end) {
								accepted++
							}
							checkRead(t, end+a+one+b+other+c)
						}
					}
				}
			}
		}
	}
	if accepted < 2 {
		t.Fatalf("the test itself: only %d of its texts are of a ban", accepted)
	}
}

func TestBa2ParseOfManyTexts(t *testing.T) {
	accepted := 0
	for _, s := range []string{"10.0.0.0/8 until 500", "10.1.2.3/32 until 1", "0.0.0.0/0 until 1099511627776", "255.255.255.254/31 until 999999999999", "::/0 until 10", "::1/128 until 9", "2001:db8::/32 until 109951162777", "::ffc0:0:0/90 until 80", "::ffff:1.2.3.4/128 until 5", "1:2:3:4:5:6:7:8/128 until 12", "::a00:0/104 until 5", "10.1.2.3 until 5"} {
		for _, x := range append(vary.Texts(s), s) {
			if checkRead(t, x) {
				accepted++
			}
		}
	}
	if accepted < 1000 {
		t.Fatalf("the test itself: only %d of its texts are of a ban", accepted)
	}
}

func TestBa2ParseOfLongTexts(t *testing.T) {
	for _, long := range []int{20, 21, 64, 1000, 100000} {
		for _, c := range []string{" ", "0", "1", "9", "/", ".", ":", "a", "\n", " until ", "until", "10.0.0.0/8 ", " 5"} {
			more := strings.Repeat(c, long)
			for _, s := range []string{more, more + "10.0.0.0/8 until 5", "10.0.0.0" + more + "/8 until 5", "10.0.0.0/8" + more + " until 5", "10.0.0.0/8 " + more + "until 5", "10.0.0.0/8 until" + more + " 5", "10.0.0.0/8 until " + more + "5", "10.0.0.0/8 until 5" + more, more + "::/0 until 5", "::/0 until 5" + more} {
				checkParse(t, s, api.Ban{}, false)
			}
		}
	}
}

func TestBa3ParseReturnsWhatWasWritten(t *testing.T) {
	count := 0
	for _, b := range bans() {
		checkParse(t, ban.Text(b), b, true)
		for _, x := range flipped(b) {
			if valid(x) {
				count++
				checkParse(t, ban.Text(x), x, true)
			} else {
				checkParse(t, ban.Text(x), api.Ban{}, false)
			}
		}
	}
	if count < 10000 {
		t.Fatalf("the test itself: only %d bans are valid", count)
	}
}

// A line that is read is that of the ban, which is valid.
func TestBa3WhatIsReadIsWritten(t *testing.T) {
	accepted := 0
	for _, s := range []string{"10.0.0.0/8 until 500", "192.168.1.0/24 until 99", "::1/128 until 1099511627776", "2001:db8::/32 until 10", "::ffff:1.2.3.4/128 until 5"} {
		for _, x := range append(vary.Texts(s), s) {
			b, ok := ban.Parse(x)
			if !ok {
				continue
			}
			accepted++
			checkRight(t, b, true)
			checkText(t, b, x)
		}
	}
	if accepted < 300 {
		t.Fatalf("the test itself: only %d of its texts are of a ban", accepted)
	}
}

// Two bans are equal if their lines are.
func TestBa3LinesOfTwoBansDiffer(t *testing.T) {
	seen := map[string]api.Ban{}
	for _, b := range bans() {
		for _, x := range append(flipped(b), b) {
			s := ban.Text(x)
			if other, ok := seen[s]; ok && other != x && valid(x) {
				t.Fatalf("%+v and %+v have the same line %q", x, other, s)
			}
			if valid(x) {
				seen[s] = x
			}
		}
	}
}

// What holds at a tick held at each earlier one, and what does not hold at one holds at none later.
func TestBa3ActiveAtEarlierTicks(t *testing.T) {
	for _, b := range append(bans(), bad()...) {
		lives, hits := true, true
		for _, now := range numbers() {
			l, h := ban.Lives(b, now), ban.Hits(b, b.Net.Addr, now)
			if l && !lives || h && !hits {
				t.Fatalf("%+v is active at %d, but not earlier", b, now)
			}
			lives, hits = l, h
		}
	}
	b := held(ten(), 500)
	for now := range 1000 {
		checkLives(t, b, now, now < 500)
		checkHits(t, b, four(0x0a010203), now, now < 500)
	}
}

// A ban that two make lasts as long as the longer one of them, whichever comes first.
func TestBa3JoinIsActiveIfOneIs(t *testing.T) {
	for _, p := range places() {
		for _, one := range ticks() {
			for _, other := range ticks() {
				a, b := held(p.n, one), held(p.n, other)
				joined := ban.Join(a, b)
				checkRight(t, joined, true)
				checkJoin(t, b, a, joined)
				checkJoin(t, joined, a, joined)
				for _, now := range []int{0, one - 1, one, other - 1, other, last} {
					checkLives(t, joined, now, ban.Lives(a, now) || ban.Lives(b, now))
				}
			}
		}
	}
}
