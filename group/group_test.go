package group_test

import (
	"encoding/binary"
	"fmt"
	"math"
	"net/netip"
	"slices"
	"strconv"
	"strings"
	"testing"

	"doorman/api"
	"doorman/cidr"
	"doorman/group"
)

func four(n uint64) api.Addr { return api.Addr{Lo: n} }

func six(hi, lo uint64) api.Addr { return api.Addr{V6: true, Hi: hi, Lo: lo} }

func net(a api.Addr, bits int) api.Net { return api.Net{Addr: a, Bits: bits} }

// digits are the bits of an address as a text, the highest first: texts tell what is to come out.
func digits(a api.Addr) string {
	if a.V6 {
		return fmt.Sprintf("%064b%064b", a.Hi, a.Lo)
	}
	return fmt.Sprintf("%032b", uint32(a.Lo))
}

// address is the address with these 32 or 128 bits.
func address(d string) api.Addr {
	if len(d) == 32 {
		n, _ := strconv.ParseUint(d, 2, 64)
		return four(n)
	}
	hi, _ := strconv.ParseUint(d[:64], 2, 64)
	lo, _ := strconv.ParseUint(d[64:], 2, 64)
	return six(hi, lo)
}

// flipped is an address with another value of bit i.
func flipped(a api.Addr, i int) api.Addr {
	d := digits(a)
	return address(d[:i] + string('0'+'1'-d[i]) + d[i+1:])
}

func valid(a api.Addr) bool {
	if a.V6 {
		return !strings.HasPrefix(digits(a), strings.Repeat("0", 80)+strings.Repeat("1", 16))
	}
	return a.Hi == 0 && a.Lo <= math.MaxUint32
}

// size is how many of the first bits of an address decide its group.
func size(a api.Addr) int {
	if a.V6 {
		return 32
	}
	return 16
}

// together tells whether two addresses are in one group.
func together(a, b api.Addr) bool {
	return valid(a) && valid(b) && a.V6 == b.V6 && digits(a)[:size(a)] == digits(b)[:size(b)]
}

// library is what the library makes of the first bits of a valid address.
func library(t *testing.T, a api.Addr) netip.Prefix {
	t.Helper()
	var whole [16]byte
	binary.BigEndian.PutUint64(whole[:8], a.Hi)
	binary.BigEndian.PutUint64(whole[8:], a.Lo)
	one := netip.AddrFrom16(whole)
	if !a.V6 {
		one = netip.AddrFrom4([4]byte(whole[12:]))
	}
	p, err := one.Prefix(size(a))
	if err != nil {
		t.Fatal(err)
	}
	return p
}

// bases are valid addresses: no bit, each one, alternating ones, the limits of some groups, and ordinary ones; such as lie beside those that represent an address of IPv4; and pairs of both kinds whose fields or first bits are alike.
func bases() []api.Addr {
	return []api.Addr{
		four(0), four(1), four(0xffff), four(0x10000), four(0x1ffff), four(0x20000), four(0x7fffffff), four(0x80000000), four(0xffff0000), four(0xffffffff), four(0xaaaaaaaa), four(0x55555555), four(0x0a010203), four(0x0a01ffff), four(0x0a020000), four(0x0a000000), four(0xc0a80101), four(0x20010db8),
		six(0, 0), six(0, 1), six(0, 0xffff), six(0, 0x10000), six(0, 1<<63), six(0, math.MaxUint64), six(1, 0), six(1<<31, 0), six(1<<32-1, math.MaxUint64), six(1<<32, 0), six(1<<33-1, 5), six(1<<33, 0), six(1<<63, 0), six(1<<63|1, 1), six(math.MaxUint64, 0), six(math.MaxUint64, math.MaxUint64), six(0xaaaaaaaaaaaaaaaa, 0xaaaaaaaaaaaaaaaa), six(0x5555555555555555, 0x5555555555555555),
		six(0x20010db800000000, 0), six(0x20010db812345678, 9), six(0x20010db8ffffffff, math.MaxUint64), six(0x20010db900000000, 0), six(0x20010db7ffffffff, math.MaxUint64), six(0x20010000deadbeef, 1), six(0x0a01020300000000, 0),
		six(0, 0x0a010203), six(0, 0x0a010203ffffffff), six(0, 0xfffe0a010203), six(0, 0x7fff0a010203), six(0, 0x1ffff0a010203), six(1, 0xffff0a010203), six(1<<32, 0xffff0a010203), six(0, 0xfffeffffffff), six(0, 0x1000000000000),
	}
}

// wrong are addresses that are not valid; the fields of some are beside those of the others, or of valid ones.
func wrong() []api.Addr {
	return []api.Addr{
		four(1 << 32), four(1<<32 | 0x0a010203), four(1 << 63), four(math.MaxUint64), four(0xffff0a010203), {Hi: 1}, {Hi: 1 << 32}, {Hi: 1 << 63}, {Hi: 1, Lo: 0x0a010203}, {Hi: 1 << 63, Lo: 0xffffffff}, {Hi: math.MaxUint64, Lo: math.MaxUint64}, {Hi: 0x20010db800000000, Lo: 1},
		six(0, 0xffff00000000), six(0, 0xffff00000001), six(0, 0xffff0a010203), six(0, 0xffff80000000), six(0, 0xffffffffffff),
	}
}

// some are valid addresses: the bases, and those that differ from one of them in one bit.
func some() []api.Addr {
	l := bases()
	for _, a := range bases() {
		for i := range digits(a) {
			l = append(l, flipped(a, i))
		}
	}
	return slices.DeleteFunc(l, func(a api.Addr) bool { return !valid(a) })
}

func checkOf(t *testing.T, a api.Addr, want api.Net) {
	t.Helper()
	if got := group.Of(a); got != want {
		t.Fatalf("Of(%+v) is %+v, not %+v", a, got, want)
	}
}

func checkSame(t *testing.T, a, b api.Addr, want bool) {
	t.Helper()
	if got := group.Same(a, b); got != want {
		t.Fatalf("Same(%+v, %+v) is %v", a, b, got)
	}
}

func checkText(t *testing.T, a api.Addr, want string) {
	t.Helper()
	if got := group.Text(a); got != want {
		t.Fatalf("Text(%+v) is %q, not %q", a, got, want)
	}
}

func TestGr1OfByHand(t *testing.T) {
	for _, c := range []struct {
		a    api.Addr
		want api.Net
	}{
		{four(0x0a010203), net(four(0x0a010000), 16)}, {four(0x0a010000), net(four(0x0a010000), 16)}, {four(0x0a01ffff), net(four(0x0a010000), 16)}, {four(0x0a020000), net(four(0x0a020000), 16)}, {four(0x0a00ffff), net(four(0x0a000000), 16)}, {four(0xc0a80101), net(four(0xc0a80000), 16)}, {four(0), net(four(0), 16)}, {four(0xffff), net(four(0), 16)}, {four(0x10000), net(four(0x10000), 16)}, {four(0x80000000), net(four(0x80000000), 16)}, {four(0xffffffff), net(four(0xffff0000), 16)},
		{six(0x20010db812345678, 9), net(six(0x20010db800000000, 0), 32)}, {six(0x20010db800000000, 0), net(six(0x20010db800000000, 0), 32)}, {six(0x20010db8ffffffff, math.MaxUint64), net(six(0x20010db800000000, 0), 32)}, {six(0x20010db900000000, 0), net(six(0x20010db900000000, 0), 32)}, {six(0, 0), net(six(0, 0), 32)}, {six(0, 1), net(six(0, 0), 32)}, {six(0xffffffff, math.MaxUint64), net(six(0, 0), 32)}, {six(0x100000000, 0), net(six(0x100000000, 0), 32)}, {six(1<<63, 1), net(six(1<<63, 0), 32)}, {six(math.MaxUint64, math.MaxUint64), net(six(0xffffffff00000000, 0), 32)},
		{six(0, 0x0a010203), net(six(0, 0), 32)}, {six(0, 0xfffe0a010203), net(six(0, 0), 32)}, {six(0, 0x1ffff0a010203), net(six(0, 0), 32)}, {six(1, 0xffff0a010203), net(six(0, 0), 32)}, {six(1<<32, 0xffff0a010203), net(six(1<<32, 0), 32)},
	} {
		checkOf(t, c.a, c.want)
	}
}

func TestGr1OfMany(t *testing.T) {
	for _, a := range some() {
		d := digits(a)
		first := d[:size(a)]
		checkOf(t, a, net(address(first+strings.Repeat("0", len(d)-len(first))), len(first)))
	}
}

func TestGr1OfNoAddress(t *testing.T) {
	for _, a := range wrong() {
		checkOf(t, a, api.Net{})
	}
}

func TestGr1SameByHand(t *testing.T) {
	for _, c := range []struct {
		a, b api.Addr
		want bool
	}{
		{four(0x0a010203), four(0x0a010203), true}, {four(0x0a010203), four(0x0a01ffff), true}, {four(0x0a010000), four(0x0a01ffff), true}, {four(0x0a01ffff), four(0x0a020000), false}, {four(0x0a010203), four(0x0a000203), false}, {four(0x0a010203), four(0x0b010203), false}, {four(0), four(0), true}, {four(0), four(0xffff), true}, {four(0), four(0x10000), false}, {four(0), four(0x80000000), false}, {four(0xffffffff), four(0xffff0000), true}, {four(0xffffffff), four(0xfffeffff), false},
		{six(0x20010db800000000, 0), six(0x20010db8ffffffff, 1), true}, {six(0x20010db800000000, 0), six(0x20010db8ffffffff, math.MaxUint64), true}, {six(0x20010db900000000, 0), six(0x20010db800000000, 0), false}, {six(0x20010db8ffffffff, math.MaxUint64), six(0x20010db900000000, 0), false}, {six(0x20010db800000000, 0), six(0x20020db800000000, 0), false}, {six(0, 0), six(0, 0), true}, {six(0, 0), six(0xffffffff, math.MaxUint64), true}, {six(0, 0), six(0x100000000, 0), false}, {six(0, 0), six(1<<63, 0), false}, {six(math.MaxUint64, 0), six(math.MaxUint64, 1), true},
		{four(0), six(0, 0), false}, {four(0x0a010203), six(0, 0x0a010203), false}, {four(0x0a010203), six(0x0a01000000000000, 0), false}, {four(0x20010db8), six(0x20010db800000000, 0), false}, {four(0x0a010203), six(0, 0xfffe0a010203), false},
	} {
		checkSame(t, c.a, c.b, c.want)
		checkSame(t, c.b, c.a, c.want)
	}
}

func TestGr1SameOfMany(t *testing.T) {
	l := some()
	for _, a := range bases() {
		for _, b := range l {
			checkSame(t, a, b, together(a, b))
			checkSame(t, b, a, together(a, b))
		}
	}
}

// Each of the first bits decides, and none of the others does (unless the address then is not valid).
func TestGr1SameOfEachBit(t *testing.T) {
	for _, a := range bases() {
		for i := range digits(a) {
			b := flipped(a, i)
			checkSame(t, a, b, i >= size(a) && valid(b))
			checkSame(t, b, a, i >= size(a) && valid(b))
		}
	}
}

// All that is not valid has the same zero subnet, and is in no group: not even with itself.
func TestGr1SameOfNoAddress(t *testing.T) {
	for _, a := range wrong() {
		for _, b := range slices.Concat(bases(), wrong()) {
			checkSame(t, a, b, false)
			checkSame(t, b, a, false)
		}
	}
}

func TestGr1TextByHand(t *testing.T) {
	for _, c := range []struct {
		a    api.Addr
		want string
	}{
		{four(0x0a010203), "10.1.0.0/16"}, {four(0x0a01ffff), "10.1.0.0/16"}, {four(0x0a020000), "10.2.0.0/16"}, {four(0), "0.0.0.0/16"}, {four(0xffff), "0.0.0.0/16"}, {four(0xffffffff), "255.255.0.0/16"}, {four(0xc0a80101), "192.168.0.0/16"},
		{six(0x20010db812345678, 9), "2001:db8::/32"}, {six(0x20010db800000000, 0), "2001:db8::/32"}, {six(0x20010000deadbeef, 1), "2001::/32"}, {six(0, 0), "::/32"}, {six(0, 0x0a010203), "::/32"}, {six(0, 0xfffe0a010203), "::/32"}, {six(1, 0xffff0a010203), "::/32"}, {six(1<<32, 0), "0:1::/32"}, {six(math.MaxUint64, math.MaxUint64), "ffff:ffff::/32"},
	} {
		checkText(t, c.a, c.want)
	}
}

func TestGr1TextOfMany(t *testing.T) {
	for _, a := range some() {
		checkText(t, a, library(t, a).String())
	}
}

func TestGr1TextOfNoAddress(t *testing.T) {
	for _, a := range wrong() {
		checkText(t, a, "")
	}
}

func TestGr2AnAddressIsInItsGroup(t *testing.T) {
	for _, a := range some() {
		n := group.Of(a)
		if !cidr.Has(n, a) {
			t.Fatalf("%+v is not in its group %+v", a, n)
		}
		checkSame(t, a, a, true)
		checkSame(t, a, n.Addr, true)
		checkOf(t, n.Addr, n)
		if back, ok := cidr.Parse(group.Text(a)); !ok || back != n {
			t.Fatalf("the text of the group of %+v is read as %+v", a, back)
		}
	}
}

func TestGr2InOneGroupIfOneIsInTheGroupOfTheOther(t *testing.T) {
	l := some()
	pairs := 0
	for _, a := range bases() {
		for _, b := range l {
			one := group.Same(a, b)
			if cidr.Has(group.Of(a), b) != one || cidr.Has(group.Of(b), a) != one || (group.Of(a) == group.Of(b)) != one {
				t.Fatalf("Same(%+v, %+v) is %v; their groups are %+v and %+v", a, b, one, group.Of(a), group.Of(b))
			}
			if one {
				pairs++
			}
		}
	}
	if pairs < 2000 || pairs > len(bases())*len(l)/2 {
		t.Fatalf("the test itself: %d pairs are in one group", pairs)
	}
}
