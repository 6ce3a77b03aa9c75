package cidr_test

import (
	"encoding/binary"
	"fmt"
	"math"
	"net/netip"
	"regexp"
	"slices"
	"strconv"
	"strings"
	"testing"

	"doorman/addr"
	"doorman/api"
	"doorman/cidr"
	"doorman/vary"
)

func four(n uint64) api.Addr { return api.Addr{Lo: n} }

func six(hi, lo uint64) api.Addr { return api.Addr{V6: true, Hi: hi, Lo: lo} }

func net(a api.Addr, bits int) api.Net { return api.Net{Addr: a, Bits: bits} }

// digits are the bits of an address as a text, the highest first: texts tell what is to come out.
func digits(a api.Addr) string {
	if a.V6 {
		return fmt.Sprintf("%064b%064b", a.Hi, a.Lo)
	}
	return fmt.Sprintf("%032b", uint32(a.Lo))
}

// address is the address with these 32 or 128 bits.
func address(d string) api.Addr {
	if len(d) == 32 {
		n, _ := strconv.ParseUint(d, 2, 64)
		return four(n)
	}
	hi, _ := strconv.ParseUint(d[:64], 2, 64)
	lo, _ := strconv.ParseUint(d[64:], 2, 64)
	return six(hi, lo)
}

// kept are the bits of which all but the first ones are 0.
func kept(d string, bits int) string { return d[:bits] + strings.Repeat("0", len(d)-bits) }

// marked tells whether 128 bits are those of an address of IPv6 that represents one of IPv4.
func marked(d string) bool {
	return strings.HasPrefix(d, strings.Repeat("0", 80)+strings.Repeat("1", 16))
}

func valid(a api.Addr) bool {
	if a.V6 {
		return !marked(digits(a))
	}
	return a.Hi == 0 && a.Lo <= math.MaxUint32
}

func validNet(n api.Net) bool {
	if !valid(n.Addr) || n.Bits < 0 || n.Bits > len(digits(n.Addr)) {
		return false
	}
	return digits(n.Addr) == kept(digits(n.Addr), n.Bits)
}

// inside tells whether an address is in a subnet that is valid.
func inside(n api.Net, a api.Addr) bool {
	return valid(a) && n.Addr.V6 == a.V6 && strings.HasPrefix(digits(a), digits(n.Addr)[:n.Bits])
}

// flipped is an address with another value of bit i.
func flipped(a api.Addr, i int) api.Addr {
	d := digits(a)
	return address(d[:i] + string('0'+'1'-d[i]) + d[i+1:])
}

// bases are valid addresses: no bit, each one, alternating ones, the last ones, and ordinary ones; and such as lie beside those that represent an address of IPv4.
func bases() []api.Addr {
	return []api.Addr{
		four(0), four(0xffffffff), four(1), four(0x80000000), four(0xaaaaaaaa), four(0x55555555), four(0x0a010203), four(0xc0a80101),
		six(0, 0), six(math.MaxUint64, math.MaxUint64), six(0, 1), six(1, 0), six(1<<63, 0), six(0, 1<<63), six(0xaaaaaaaaaaaaaaaa, 0xaaaaaaaaaaaaaaaa), six(0x5555555555555555, 0x5555555555555555), six(math.MaxUint64, 0), six(0, math.MaxUint64), six(1<<63|1, 1),
		six(0x20010db800000000, 1), six(0x20010db8aaaabbbb, 0xccccddddeeeeffff), six(0, 0x0a010203), six(0, 0xfffe0a010203), six(0, 0x7fff0a010203), six(0, 0x1ffff0a010203), six(1, 0xffff0a010203), six(0, 0xffc000000000), six(0, 0xfffeffffffff),
	}
}

// wrong are addresses that are not valid.
func wrong() []api.Addr {
	return []api.Addr{
		four(1 << 32), four(1<<32 | 0x0a000000), four(1 << 63), four(math.MaxUint64), {Hi: 1}, {Hi: 1 << 63}, {Hi: 1, Lo: 0x0a010203}, {Hi: math.MaxUint64, Lo: math.MaxUint64}, {Hi: 0x20010db800000000, Lo: 1},
		six(0, 0xffff00000000), six(0, 0xffff00000001), six(0, 0xffff0a000000), six(0, 0xffff0a010203), six(0, 0xffffffffffff), six(0, 0xffff80000000),
	}
}

// numbers are numbers of bits: all that either kind of address has, those beside them, and extreme ones.
func numbers() []int {
	l := []int{math.MinInt, math.MinInt + 1, math.MinInt + 32, -1 << 32, -129, -128, -127, -64, -33, -32, -31, 160, 192, 255, 256, 1 << 32, 1<<32 + 8, 1 << 40, math.MaxInt - 1, math.MaxInt}
	for n := -20; n <= 140; n++ {
		l = append(l, n)
	}
	return l
}

// subnets are valid ones of many sizes, many of them inside each other.
func subnets() []api.Net {
	var l []api.Net
	for _, a := range bases() {
		d := digits(a)
		for _, bits := range []int{0, 1, 7, 8, 9, 16, 24, 30, 31, 32, 33, 63, 64, 65, 80, 95, 96, 97, 104, 127, 128} {
			if bits <= len(d) {
				l = append(l, net(address(kept(d, bits)), bits))
			}
		}
	}
	return l
}

// broken are subnets that are not valid: wrong addresses, wrong numbers of bits, and bits behind the first ones.
func broken() []api.Net {
	var l []api.Net
	for _, a := range slices.Concat(bases(), wrong()) {
		for _, bits := range []int{math.MinInt, -128, -1, 0, 1, 8, 31, 32, 33, 64, 95, 96, 104, 127, 128, 129, 256, math.MaxInt} {
			if n := net(a, bits); !validNet(n) {
				l = append(l, n)
			}
		}
	}
	return l
}

// read is what Parse must return: its addresses are read by the library.
func read(s string) (api.Net, bool) {
	text, number, parted := strings.Cut(s, "/")
	a, err := netip.ParseAddr(text)
	if err != nil || a.Zone() != "" {
		return api.Net{}, false
	}
	d := ""
	for _, b := range a.AsSlice() {
		d += fmt.Sprintf("%08b", b)
	}
	bits := len(d)
	if parted {
		if !regexp.MustCompile(`\A(0|[1-9][0-9]?[0-9]?)\z`).MatchString(number) {
			return api.Net{}, false
		}
		if bits, err = strconv.Atoi(number); err != nil || bits > len(d) {
			return api.Net{}, false
		}
	}
	if marked(d) && bits >= 96 {
		d, bits = d[96:], bits-96
	}
	return net(address(kept(d, bits)), bits), true
}

// library is a valid subnet, as the library has it.
func library(n api.Net) netip.Prefix {
	if n.Addr.V6 {
		var b [16]byte
		binary.BigEndian.PutUint64(b[:8], n.Addr.Hi)
		binary.BigEndian.PutUint64(b[8:], n.Addr.Lo)
		return netip.PrefixFrom(netip.AddrFrom16(b), n.Bits)
	}
	var b [4]byte
	binary.BigEndian.PutUint32(b[:], uint32(n.Addr.Lo))
	return netip.PrefixFrom(netip.AddrFrom4(b), n.Bits)
}

func checkRight(t *testing.T, n api.Net, want bool) {
	t.Helper()
	if got := cidr.Right(n); got != want {
		t.Fatalf("Right(%+v) is %v", n, got)
	}
}

func checkMask(t *testing.T, a api.Addr, bits int, want api.Addr) {
	t.Helper()
	if got := cidr.Mask(a, bits); got != want {
		t.Fatalf("Mask(%+v, %d) is %+v, not %+v", a, bits, got, want)
	}
}

func checkMake(t *testing.T, a api.Addr, bits int, want api.Net, ok bool) {
	t.Helper()
	if got, good := cidr.Make(a, bits); got != want || good != ok {
		t.Fatalf("Make(%+v, %d) is %+v, %v, not %+v, %v", a, bits, got, good, want, ok)
	}
}

func checkFull(t *testing.T, a api.Addr, want api.Net) {
	t.Helper()
	if got := cidr.Full(a); got != want {
		t.Fatalf("Full(%+v) is %+v, not %+v", a, got, want)
	}
}

func checkHas(t *testing.T, n api.Net, a api.Addr, want bool) {
	t.Helper()
	if got := cidr.Has(n, a); got != want {
		t.Fatalf("Has(%+v, %+v) is %v", n, a, got)
	}
}

func checkWithin(t *testing.T, in, out api.Net, want bool) {
	t.Helper()
	if got := cidr.Within(in, out); got != want {
		t.Fatalf("Within(%+v, %+v) is %v", in, out, got)
	}
}

func checkCompare(t *testing.T, a, b api.Net, want int) {
	t.Helper()
	if got := cidr.Compare(a, b); got != want {
		t.Fatalf("Compare(%+v, %+v) is %d, not %d", a, b, got, want)
	}
}

func checkText(t *testing.T, n api.Net, want string) {
	t.Helper()
	if got := cidr.Text(n); got != want {
		t.Fatalf("Text(%+v) is %q, not %q", n, got, want)
	}
}

func checkParse(t *testing.T, s string, want api.Net, ok bool) {
	t.Helper()
	if got, good := cidr.Parse(s); got != want || good != ok {
		t.Fatalf("Parse(%.90q) is %+v, %v, not %+v, %v", s, got, good, want, ok)
	}
}

// checkRead holds Parse against read, and tells whether the text is that of a subnet.
func checkRead(t *testing.T, s string) bool {
	t.Helper()
	want, ok := read(s)
	checkParse(t, s, want, ok)
	return ok
}

func TestCi1RightByHand(t *testing.T) {
	for _, c := range []struct {
		n    api.Net
		want bool
	}{
		{api.Net{}, true}, {net(four(0), 32), true}, {net(four(0x0a000000), 8), true}, {net(four(0x0a000000), 7), true}, {net(four(0x0a000000), 6), false}, {net(four(0x0a000000), 32), true}, {net(four(0x0a010203), 8), false}, {net(four(0x0a010203), 31), false}, {net(four(0x0a010203), 32), true}, {net(four(0x80000000), 1), true}, {net(four(0x80000000), 0), false}, {net(four(0xffffffff), 32), true}, {net(four(1), 0), false},
		{net(four(0), -1), false}, {net(four(0), 33), false}, {net(four(0x0a000000), 33), false}, {net(four(0), 64), false}, {net(four(0), 128), false}, {net(four(0), math.MaxInt), false}, {net(four(0), math.MinInt), false}, {net(four(1<<32), 32), false}, {net(four(1<<32), 0), false}, {net(api.Addr{Hi: 1}, 32), false}, {net(api.Addr{Hi: 1 << 63}, 1), false}, {net(api.Addr{Hi: 1 << 63}, 0), false},
		{net(six(0, 0), 0), true}, {net(six(0, 0), 128), true}, {net(six(1<<63, 0), 1), true}, {net(six(1<<63, 0), 0), false}, {net(six(0x20010db800000000, 0), 32), true}, {net(six(0x20010db800000000, 0), 29), true}, {net(six(0x20010db800000000, 0), 28), false}, {net(six(0x20010db800000000, 1), 32), false}, {net(six(0x20010db800000000, 1), 127), false}, {net(six(0x20010db800000000, 1), 128), true}, {net(six(1, 0), 64), true}, {net(six(1, 0), 63), false}, {net(six(0, 1<<63), 65), true}, {net(six(0, 1<<63), 64), false}, {net(six(math.MaxUint64, math.MaxUint64), 128), true},
		{net(six(0, 0), -1), false}, {net(six(0, 0), 129), false}, {net(six(0, 0), 256), false}, {net(six(0, 0), math.MaxInt), false}, {net(six(0, 0), math.MinInt), false},
		{net(six(0, 0xffff00000000), 96), false}, {net(six(0, 0xffff00000000), 128), false}, {net(six(0, 0xffff0a000000), 104), false}, {net(six(0, 0xffff0a010203), 128), false}, {net(six(0, 0xffc000000000), 90), true}, {net(six(0, 0xfffe00000000), 95), true}, {net(six(0, 0xfffe00000000), 96), true}, {net(six(0, 0x1ffff00000000), 96), true},
	} {
		checkRight(t, c.n, c.want)
	}
}

func TestCi1RightOfMany(t *testing.T) {
	for _, bits := range numbers() {
		for _, a := range bases() {
			checkRight(t, net(a, bits), validNet(net(a, bits)))
		}
		for _, a := range wrong() {
			checkRight(t, net(a, bits), false)
		}
	}
	for _, a := range bases() {
		d := digits(a)
		for bits := range len(d) + 1 {
			cut := address(kept(d, bits))
			checkRight(t, net(cut, bits), true)
			for _, n := range []api.Net{net(cut, bits-1), net(cut, bits+1), net(api.Addr{V6: a.V6, Hi: a.Hi, Lo: cut.Lo}, bits)} {
				checkRight(t, n, validNet(n))
			}
		}
	}
}

// Each bit after the first ones must be 0, and each of the first ones may be 1.
func TestCi1RightOfEachBit(t *testing.T) {
	for _, zero := range []api.Addr{four(0), six(0, 0)} {
		count := len(digits(zero))
		for bits := range count + 1 {
			for i := range count {
				checkRight(t, net(flipped(zero, i), bits), i < bits)
			}
		}
	}
}

func TestCi1MaskByHand(t *testing.T) {
	for _, c := range []struct {
		a    api.Addr
		bits int
		want api.Addr
	}{
		{four(0x0a010203), 8, four(0x0a000000)}, {four(0x0a010203), 16, four(0x0a010000)}, {four(0x0a010203), 24, four(0x0a010200)}, {four(0x0a010203), 31, four(0x0a010202)}, {four(0x0a010203), 32, four(0x0a010203)}, {four(0x0a010203), 0, four(0)}, {four(0xffffffff), 1, four(0x80000000)}, {four(0xffffffff), 9, four(0xff800000)}, {four(0xffffffff), 31, four(0xfffffffe)}, {four(0), 5, four(0)},
		{four(0xffffffff), 33, four(0xffffffff)}, {four(0xffffffff), 99, four(0xffffffff)}, {four(0xffffffff), 128, four(0xffffffff)}, {four(0xffffffff), 1 << 32, four(0xffffffff)}, {four(0xffffffff), math.MaxInt, four(0xffffffff)}, {four(0xffffffff), -1, four(0)}, {four(0xffffffff), -9, four(0)}, {four(0xffffffff), -32, four(0)}, {four(0xffffffff), math.MinInt, four(0)},
		{six(0x20010db8aaaabbbb, 0xccccddddeeeeffff), 32, six(0x20010db800000000, 0)}, {six(0x20010db8aaaabbbb, 0xccccddddeeeeffff), 48, six(0x20010db8aaaa0000, 0)}, {six(0x20010db8aaaabbbb, 0xccccddddeeeeffff), 64, six(0x20010db8aaaabbbb, 0)}, {six(0x20010db8aaaabbbb, 0xccccddddeeeeffff), 80, six(0x20010db8aaaabbbb, 0xcccc000000000000)}, {six(0x20010db8aaaabbbb, 0xccccddddeeeeffff), 127, six(0x20010db8aaaabbbb, 0xccccddddeeeefffe)}, {six(0x20010db8aaaabbbb, 0xccccddddeeeeffff), 128, six(0x20010db8aaaabbbb, 0xccccddddeeeeffff)}, {six(0x20010db8aaaabbbb, 0xccccddddeeeeffff), 0, six(0, 0)},
		{six(math.MaxUint64, math.MaxUint64), 1, six(1<<63, 0)}, {six(math.MaxUint64, math.MaxUint64), 63, six(math.MaxUint64-1, 0)}, {six(math.MaxUint64, math.MaxUint64), 65, six(math.MaxUint64, 1<<63)}, {six(math.MaxUint64, math.MaxUint64), 96, six(math.MaxUint64, 0xffffffff00000000)},
		{six(math.MaxUint64, 5), 129, six(math.MaxUint64, 5)}, {six(math.MaxUint64, 5), math.MaxInt, six(math.MaxUint64, 5)}, {six(math.MaxUint64, 5), -1, six(0, 0)}, {six(math.MaxUint64, 5), -128, six(0, 0)}, {six(math.MaxUint64, 5), math.MinInt, six(0, 0)},
		{six(0, 0xfffe0a010203), 95, six(0, 0xfffe00000000)}, {six(0, 0x7fff0a010203), 96, six(0, 0x7fff00000000)}, {six(1, 0xffff0a010203), 96, six(1, 0xffff00000000)},
	} {
		checkMask(t, c.a, c.bits, c.want)
	}
}

func TestCi1MaskOfMany(t *testing.T) {
	for _, bits := range numbers() {
		for _, a := range bases() {
			d := digits(a)
			checkMask(t, a, bits, address(kept(d, min(max(bits, 0), len(d)))))
		}
		for _, a := range wrong() {
			checkMask(t, a, bits, api.Addr{})
		}
	}
}

func TestCi1MaskOfEachBit(t *testing.T) {
	for _, a := range []api.Addr{four(0), six(0, 0), four(0xffffffff), six(math.MaxUint64, math.MaxUint64)} {
		count := len(digits(a))
		for i := range count {
			b := flipped(a, i)
			for bits := range count + 1 {
				checkMask(t, b, bits, address(kept(digits(b), bits)))
			}
		}
	}
}

func TestCi1MakeByHand(t *testing.T) {
	for _, c := range []struct {
		a    api.Addr
		bits int
		want api.Addr
	}{
		{four(0x0a010203), 8, four(0x0a000000)}, {four(0x0a010203), 0, four(0)}, {four(0x0a010203), 1, four(0)}, {four(0x0a010203), 31, four(0x0a010202)}, {four(0x0a010203), 32, four(0x0a010203)}, {four(0), 0, four(0)}, {four(0), 32, four(0)},
		{six(0x20010db800000000, 1), 32, six(0x20010db800000000, 0)}, {six(0x20010db800000000, 1), 0, six(0, 0)}, {six(0x20010db800000000, 1), 33, six(0x20010db800000000, 0)}, {six(0x20010db800000000, 1), 127, six(0x20010db800000000, 0)}, {six(0x20010db800000000, 1), 128, six(0x20010db800000000, 1)}, {six(1<<63|1, 1), 65, six(1<<63|1, 0)}, {six(0, 0), 128, six(0, 0)},
	} {
		checkMake(t, c.a, c.bits, net(c.want, c.bits), true)
	}
	for _, c := range []api.Net{
		net(four(0x0a010203), -1), net(four(0x0a010203), 33), net(four(0x0a010203), 64), net(four(0x0a010203), 128), net(four(0), math.MaxInt), net(four(0), math.MinInt), net(four(1<<32), 8), net(four(1<<32), 32), net(api.Addr{Hi: 1}, 0), net(api.Addr{Hi: 1}, 3),
		net(six(0, 1), -1), net(six(0, 1), 129), net(six(0, 1), math.MaxInt), net(six(0, 1), math.MinInt), net(six(0, 0xffff0a010203), 8), net(six(0, 0xffff0a010203), 90), net(six(0, 0xffff0a010203), 104), net(six(0, 0xffff0a010203), 128), net(six(0, 0xffff00000000), 0),
	} {
		checkMake(t, c.Addr, c.Bits, api.Net{}, false)
	}
}

func TestCi1MakeOfMany(t *testing.T) {
	for _, bits := range numbers() {
		for _, a := range bases() {
			d := digits(a)
			if bits < 0 || bits > len(d) {
				checkMake(t, a, bits, api.Net{}, false)
				continue
			}
			n := net(address(kept(d, bits)), bits)
			checkMake(t, a, bits, n, true)
			checkMake(t, n.Addr, bits, n, true)
			checkRight(t, n, true)
		}
		for _, a := range wrong() {
			checkMake(t, a, bits, api.Net{}, false)
		}
	}
}

func TestCi1Full(t *testing.T) {
	checkFull(t, four(0x0a010203), net(four(0x0a010203), 32))
	checkFull(t, six(0x20010db800000000, 1), net(six(0x20010db800000000, 1), 128))
	checkFull(t, api.Addr{}, net(four(0), 32))
	checkFull(t, six(0, 0), net(six(0, 0), 128))
	for _, a := range bases() {
		checkFull(t, a, net(a, len(digits(a))))
	}
	for _, a := range wrong() {
		checkFull(t, a, api.Net{})
	}
}

func TestCi2HasByHand(t *testing.T) {
	ten, half, one := net(four(0x0a000000), 8), net(four(0x0a800000), 9), net(four(0x0a010203), 32)
	doc, some, host := net(six(0x20010db800000000, 0), 32), net(six(0x20010db800000000, 1<<63), 65), net(six(0, 1), 128)
	for _, c := range []struct {
		n    api.Net
		a    api.Addr
		want bool
	}{
		{ten, four(0x0a000000), true}, {ten, four(0x0a010203), true}, {ten, four(0x0affffff), true}, {ten, four(0x09ffffff), false}, {ten, four(0x0b000000), false}, {ten, four(0x8a000000), false}, {ten, four(0), false},
		{half, four(0x0a800001), true}, {half, four(0x0affffff), true}, {half, four(0x0a7fffff), false}, {half, four(0x0a000000), false}, {one, four(0x0a010203), true}, {one, four(0x0a010202), false}, {one, four(0x0a010204), false}, {one, four(0x8a010203), false},
		{net(four(0), 0), four(0), true}, {net(four(0), 0), four(0xffffffff), true}, {net(four(0), 0), six(0, 0), false}, {net(six(0, 0), 0), four(0), false}, {net(six(0, 0), 0), six(math.MaxUint64, math.MaxUint64), true}, {net(six(0, 0), 0), four(0x0a010203), false},
		{doc, six(0x20010db800000000, 0), true}, {doc, six(0x20010db8ffffffff, math.MaxUint64), true}, {doc, six(0x20010db900000000, 0), false}, {doc, six(0x20010db7ffffffff, math.MaxUint64), false}, {doc, six(0, 0), false}, {doc, four(0x20010db8), false}, {some, six(0x20010db800000000, 1<<63|5), true}, {some, six(0x20010db800000000, 1<<63-1), false}, {some, six(0x20010db800000001, 1<<63), false}, {host, six(0, 1), true}, {host, six(0, 0), false}, {host, six(1, 1), false}, {host, four(1), false},
		{net(six(0x0a00000000000000, 0), 8), four(0x0a010203), false}, {net(six(0, 0x0a000000), 104), four(0x0a000000), false}, {net(six(0, 0x0a000000), 104), six(0, 0x0a010203), true}, {net(six(0, 0xffc000000000), 90), four(0x0a010203), false}, {net(six(0, 0xffc000000000), 90), six(0, 0xffff0a010203), false}, {net(six(0, 0xffc000000000), 90), six(0, 0xfffe0a010203), true}, {net(six(0, 0), 80), six(0, 0xffff0a010203), false}, {net(six(0, 0), 0), six(0, 0xffff0a010203), false},
		{net(four(0), 0), four(1 << 32), false}, {net(four(0), 0), api.Addr{Hi: 1}, false}, {ten, four(1<<32 | 0x0a010203), false}, {ten, api.Addr{Hi: 1, Lo: 0x0a010203}, false}, {net(four(0), 32), four(1 << 32), false},
		{net(four(1), 8), four(1), false}, {net(four(0x0a010203), 8), four(0x0a010203), false}, {net(four(0x0a000000), -1), four(0x0a000000), false}, {net(four(0), -1), four(0), false}, {net(four(0x0a010203), 33), four(0x0a010203), false}, {net(four(0), math.MinInt), four(0), false}, {net(four(0), math.MaxInt), four(0), false}, {net(six(0, 0), -1), six(0, 0), false}, {net(six(0, 1), 129), six(0, 1), false}, {net(six(0, 1), 127), six(0, 1), false}, {net(six(0, 1), 127), six(0, 0), false},
		{net(six(0, 0xffff0a000000), 104), four(0x0a010203), false}, {net(six(0, 0xffff0a000000), 104), six(0, 0xffff0a010203), false}, {net(six(0, 0xffff0a000000), 128), six(0, 0xffff0a000000), false}, {net(four(1<<32), 32), four(1 << 32), false}, {net(four(1<<32), 32), four(0), false}, {net(api.Addr{Hi: 1}, 32), api.Addr{Hi: 1}, false}, {net(api.Addr{Hi: 1}, 0), four(0), false},
	} {
		checkHas(t, c.n, c.a, c.want)
	}
}

func TestCi2HasOfMany(t *testing.T) {
	for _, n := range subnets() {
		for _, a := range slices.Concat(bases(), wrong()) {
			checkHas(t, n, a, inside(n, a))
		}
	}
	for _, n := range broken() {
		for _, a := range append(slices.Concat(bases(), wrong()), n.Addr, cidr.Mask(n.Addr, n.Bits)) {
			checkHas(t, n, a, false)
		}
	}
}

// Each of the first bits decides, and none of the others does (unless the address then is not valid).
func TestCi2HasOfEachBit(t *testing.T) {
	for _, n := range subnets() {
		for i := range digits(n.Addr) {
			a := flipped(n.Addr, i)
			checkHas(t, n, a, i >= n.Bits && valid(a))
		}
	}
}

func TestCi2WithinByHand(t *testing.T) {
	ten, half, one := net(four(0x0a000000), 8), net(four(0x0a800000), 9), net(four(0x0a010203), 32)
	doc, some := net(six(0x20010db800000000, 0), 32), net(six(0x20010db800000000, 1<<63), 65)
	for _, c := range []struct {
		in, out api.Net
		want    bool
	}{
		{half, ten, true}, {ten, half, false}, {ten, ten, true}, {half, half, true}, {one, ten, true}, {one, half, false}, {ten, one, false}, {one, one, true}, {net(four(0x0b000000), 8), ten, false}, {ten, net(four(0x0b000000), 8), false}, {net(four(0x0a000000), 9), half, false}, {net(four(0x0a000000), 9), ten, true}, {net(four(0x0a000000), 7), ten, false}, {ten, net(four(0x0a000000), 7), true},
		{ten, api.Net{}, true}, {api.Net{}, ten, false}, {api.Net{}, api.Net{}, true}, {net(four(0), 32), api.Net{}, true}, {net(four(0), 31), net(four(0), 32), false},
		{some, doc, true}, {doc, some, false}, {doc, doc, true}, {doc, net(six(0, 0), 0), true}, {net(six(0, 0), 0), doc, false}, {net(six(0x20010db900000000, 0), 32), doc, false}, {net(six(0, 0), 128), net(six(0, 0), 0), true},
		{net(six(0x0a00000000000000, 0), 8), ten, false}, {ten, net(six(0x0a00000000000000, 0), 8), false}, {net(six(0, 0), 0), api.Net{}, false}, {api.Net{}, net(six(0, 0), 0), false}, {net(six(0, 0), 32), api.Net{}, false}, {one, net(six(0, 0), 0), false}, {one, net(six(0, 0xffc000000000), 90), false},
		{net(four(0x0a010203), 8), ten, false}, {net(four(0x0a010203), 16), ten, false}, {net(four(0x0a000000), 33), ten, false}, {net(four(0x0a000000), 128), ten, false}, {net(four(0x0a000000), math.MaxInt), ten, false}, {one, net(four(0x0a010203), 8), false}, {one, net(four(0x0a000000), -1), false}, {one, net(four(0), -1), false}, {one, net(four(0x0a010203), math.MinInt), false}, {net(four(0x0a010203), 33), net(four(0x0a010203), 33), false}, {net(four(0), -1), net(four(0), -1), false}, {net(four(0x0a010203), 8), net(four(0x0a010203), 8), false},
		{net(six(0, 0xffff0a000000), 104), ten, false}, {net(six(0, 0xffff0a000000), 104), net(six(0, 0), 0), false}, {net(six(0, 0xffff0a000000), 104), net(six(0, 0xffff0a000000), 104), false}, {one, net(six(0, 0xffff0a000000), 104), false}, {net(four(1<<32), 32), api.Net{}, false}, {net(api.Addr{Hi: 1}, 32), api.Net{}, false}, {one, net(api.Addr{Hi: 1}, 0), false}, {net(six(0, 1), 127), net(six(0, 0), 0), false}, {net(six(0, 1), 128), net(six(0, 1), 127), false}, {net(six(0, 1), 129), net(six(0, 0), 0), false},
	} {
		checkWithin(t, c.in, c.out, c.want)
	}
}

func TestCi2WithinOfMany(t *testing.T) {
	l, no := subnets(), broken()
	for _, in := range l {
		for _, out := range l {
			checkWithin(t, in, out, in.Bits >= out.Bits && inside(out, in.Addr))
		}
		for _, n := range no {
			checkWithin(t, in, n, false)
			checkWithin(t, n, in, false)
		}
	}
	for _, n := range no {
		checkWithin(t, n, n, false)
	}
}

func TestCi2CompareByHand(t *testing.T) {
	rising := []api.Net{
		net(four(0), math.MinInt), net(four(0), -1), net(four(0), 0), net(four(0), 1), net(four(0), 32), net(four(0), 33), net(four(0), math.MaxInt), net(four(1), 0), net(four(1), 32),
		net(four(0x0a000000), 7), net(four(0x0a000000), 8), net(four(0x0a000000), 9), net(four(0x0a000000), 32), net(four(0x0a000001), 8), net(four(0x0a010000), 16), net(four(0x0a800000), 9), net(four(0x0b000000), 8), net(four(0xffffffff), 0), net(four(0xffffffff), 32), net(four(1<<32), 8), net(four(math.MaxUint64), 5), net(api.Addr{Hi: 1}, 0), net(api.Addr{Hi: math.MaxUint64, Lo: math.MaxUint64}, 128),
		net(six(0, 0), math.MinInt), net(six(0, 0), 0), net(six(0, 0), 8), net(six(0, 0), 128), net(six(0, 0), 129), net(six(0, 1), 0), net(six(0, 0xffff0a000000), 104), net(six(0, 0xffff0a000000), 105), net(six(0, 1<<63), 65), net(six(0, math.MaxUint64), 128), net(six(1, 0), 64), net(six(1, 0), 65), net(six(0x0a00000000000000, 0), 8), net(six(1<<63, 0), 1), net(six(math.MaxUint64, math.MaxUint64), math.MinInt), net(six(math.MaxUint64, math.MaxUint64), 127), net(six(math.MaxUint64, math.MaxUint64), 128), net(six(math.MaxUint64, math.MaxUint64), math.MaxInt),
	}
	for i, a := range rising {
		for k, b := range rising {
			want := 0
			if i < k {
				want = -1
			} else if i > k {
				want = 1
			}
			checkCompare(t, a, b, want)
		}
	}
}

// sortable is a text of a valid subnet that sorts as the subnet does.
func sortable(n api.Net) string {
	kind := "4"
	if n.Addr.V6 {
		kind = "6"
	}
	return kind + digits(n.Addr) + fmt.Sprintf("%03d", n.Bits)
}

func TestCi2CompareOfMany(t *testing.T) {
	l := subnets()
	for _, a := range l {
		for _, b := range l {
			checkCompare(t, a, b, strings.Compare(sortable(a), sortable(b)))
		}
	}
}

func TestCi3TextByHand(t *testing.T) {
	for _, c := range []struct {
		n    api.Net
		want string
	}{
		{api.Net{}, "0.0.0.0/0"}, {net(four(0), 32), "0.0.0.0/32"}, {net(four(0x0a000000), 8), "10.0.0.0/8"}, {net(four(0x0a010203), 32), "10.1.2.3/32"}, {net(four(0xc0a80100), 24), "192.168.1.0/24"}, {net(four(0xffffffff), 32), "255.255.255.255/32"}, {net(four(0x80000000), 1), "128.0.0.0/1"},
		{net(six(0, 0), 0), "::/0"}, {net(six(0, 0), 128), "::/128"}, {net(six(0, 1), 128), "::1/128"}, {net(six(0x20010db800000000, 0), 32), "2001:db8::/32"}, {net(six(0x20010db800000000, 1), 128), "2001:db8::1/128"}, {net(six(0xfe80000000000000, 0), 10), "fe80::/10"}, {net(six(0, 0xffc000000000), 90), "::ffc0:0:0/90"}, {net(six(0, 0x0a000000), 104), "::a00:0/104"}, {net(six(math.MaxUint64, math.MaxUint64), 128), "ffff:ffff:ffff:ffff:ffff:ffff:ffff:ffff/128"}, {net(six(1<<63, 0), 1), "8000::/1"},
		{net(four(0x0a010203), 8), ""}, {net(four(0), -1), ""}, {net(four(0), 33), ""}, {net(four(0), math.MinInt), ""}, {net(four(0), math.MaxInt), ""}, {net(four(1<<32), 32), ""}, {net(api.Addr{Hi: 1}, 32), ""}, {net(six(0, 1), 127), ""}, {net(six(0, 0), -1), ""}, {net(six(0, 0), 129), ""}, {net(six(0, 0xffff0a000000), 104), ""}, {net(six(0, 0xffff0a000000), 128), ""}, {net(six(0, 0xffff00000000), 96), ""},
	} {
		checkText(t, c.n, c.want)
	}
}

func TestCi3TextOfMany(t *testing.T) {
	for _, a := range bases() {
		d := digits(a)
		for bits := range len(d) + 1 {
			n := net(address(kept(d, bits)), bits)
			checkText(t, n, library(n).String())
		}
	}
	for _, n := range broken() {
		checkText(t, n, "")
	}
}

func TestCi3ParseByHand(t *testing.T) {
	for _, c := range []struct {
		s    string
		want api.Net
	}{
		{"10.1.2.3", net(four(0x0a010203), 32)}, {"10.1.2.3/8", net(four(0x0a000000), 8)}, {"10.0.0.0/8", net(four(0x0a000000), 8)}, {"10.1.2.3/0", net(four(0), 0)}, {"10.1.2.3/31", net(four(0x0a010202), 31)}, {"10.1.2.3/32", net(four(0x0a010203), 32)}, {"0.0.0.0/0", net(four(0), 0)}, {"0.0.0.0", net(four(0), 32)}, {"255.255.255.255/10", net(four(0xffc00000), 10)}, {"192.168.1.77/24", net(four(0xc0a80100), 24)},
		{"::", net(six(0, 0), 128)}, {"::/0", net(six(0, 0), 0)}, {"::1", net(six(0, 1), 128)}, {"::1/128", net(six(0, 1), 128)}, {"::1/127", net(six(0, 0), 127)}, {"::1/9", net(six(0, 0), 9)}, {"2001:db8::1/32", net(six(0x20010db800000000, 0), 32)}, {"2001:DB8:0::0:0/32", net(six(0x20010db800000000, 0), 32)}, {"2001:db8:aaaa:bbbb:cccc:dddd:eeee:ffff/64", net(six(0x20010db8aaaabbbb, 0), 64)}, {"2001:db8:aaaa:bbbb:cccc:dddd:eeee:ffff/100", net(six(0x20010db8aaaabbbb, 0xccccdddde0000000), 100)}, {"1:2:3:4:5:6:1.2.3.4/112", net(six(0x0001000200030004, 0x0005000601020000), 112)}, {"::1.2.3.4/104", net(six(0, 0x01000000), 104)}, {"::1.2.3.4", net(six(0, 0x01020304), 128)}, {"::1.2.3.4/33", net(six(0, 0), 33)},
		{"::ffff:10.1.2.3", net(four(0x0a010203), 32)}, {"::ffff:a01:203", net(four(0x0a010203), 32)}, {"::ffff:10.1.2.3/128", net(four(0x0a010203), 32)}, {"::ffff:10.1.2.3/127", net(four(0x0a010202), 31)}, {"::ffff:10.0.0.0/104", net(four(0x0a000000), 8)}, {"::ffff:10.1.2.3/104", net(four(0x0a000000), 8)}, {"0:0:0:0:0:FFFF:0A01:0203/104", net(four(0x0a000000), 8)}, {"::ffff:10.1.2.3/97", net(four(0), 1)}, {"::ffff:138.1.2.3/97", net(four(0x80000000), 1)}, {"::ffff:10.1.2.3/96", net(four(0), 0)}, {"::ffff:0:0/96", net(four(0), 0)},
		{"::ffff:10.1.2.3/95", net(six(0, 0xfffe00000000), 95)}, {"::ffff:0:0/95", net(six(0, 0xfffe00000000), 95)}, {"::ffff:10.1.2.3/94", net(six(0, 0xfffc00000000), 94)}, {"::ffff:10.0.0.0/90", net(six(0, 0xffc000000000), 90)}, {"::ffff:10.1.2.3/81", net(six(0, 0x800000000000), 81)}, {"::ffff:10.1.2.3/80", net(six(0, 0), 80)}, {"::ffff:10.1.2.3/64", net(six(0, 0), 64)}, {"::ffff:10.1.2.3/32", net(six(0, 0), 32)}, {"::ffff:10.1.2.3/8", net(six(0, 0), 8)}, {"::ffff:10.1.2.3/0", net(six(0, 0), 0)},
		{"::fffe:10.1.2.3/104", net(six(0, 0xfffe0a000000), 104)}, {"::1:ffff:10.1.2.3/104", net(six(0, 0x1ffff0a000000), 104)}, {"1::ffff:10.1.2.3/104", net(six(0x0001<<48, 0xffff0a000000), 104)},
	} {
		checkParse(t, c.s, c.want, true)
	}
}

func TestCi3ParseOfNoText(t *testing.T) {
	for _, s := range []string{
		"", " ", "/", "//", "/8", "/0", "8", "0", "nine", "nine/8", "10/8", "10.0.0/8", "10.0.0.0.0/8", "256.0.0.0/8", "010.0.0.0/8", "10.0.0.0x/8",
		"10.0.0.0/", "10.0.0.0/33", "10.0.0.0/64", "10.0.0.0/96", "10.0.0.0/104", "10.0.0.0/128", "10.0.0.0/129", "10.0.0.0/256", "10.0.0.0/4294967304", "10.0.0.0/18446744073709551624", "10.0.0.0/-1", "10.0.0.0/-0", "10.0.0.0/+8", "10.0.0.0/08", "10.0.0.0/00", "10.0.0.0/008", "10.0.0.0/8 ", "10.0.0.0/ 8", "10.0.0.0 /8", " 10.0.0.0/8", "10.0.0.0/8\n", "10.0.0.0/8.0", "10.0.0.0/a", "10.0.0.0/0x8", "10.0.0.0/1e1", "10.0.0.0/8a", "10.0.0.0/8/", "10.0.0.0/8/8", "10.0.0.0//8", "/10.0.0.0/8", "10.0.0.0/8/8/8", "10.0.0.0/255.0.0.0", "10.0.0.0\\8", "10.0.0.0:8", "8/10.0.0.0", "10.0.0.0,8", "10.0.0.0/::", "10.0.0.0/10.0.0.0",
		"::/", "::/129", "::/130", "::/256", "::/1000", "::/-1", "::/01", "::/00", "::/ff", "::/8/", "::/8/8", "::/8/8/8", "::1/129", "1::/129", "[::]/8", "[::/8]", ":/8", ":::/8", "1:2:3:4:5:6:7/8", "::g/8", "::1%1/8", "::1%1", "fe80::1%eth0/64", "::/0/0", "1::2::3/8", "::/١",
		"::ffff:10.0.0.0/", "::ffff:10.0.0.0/129", "::ffff:10.0.0.0/160", "::ffff:10.0.0.0/224", "::ffff:10.0.0.0/-1", "::ffff:10.0.0.0/-96", "::ffff:10.0.0.0/096", "::ffff:10.0.0.0/96/", "::ffff:10.0.0.0/96/8", "::ffff:10.0.0.0/104/104", "::ffff:10.0.0.256/104", "::ffff:10.0.0/104", "::ffff:10.0.0.0/ 104", "::ffff:10.0.0.0/128a",
	} {
		checkParse(t, s, api.Net{}, false)
	}
}

// Each number of bits, with each kind of address and without zeros in front or with them.
func TestCi3ParseOfEachNumber(t *testing.T) {
	for _, s := range []string{"0.0.0.0", "255.255.255.255", "10.1.2.3", "::", "ffff:ffff:ffff:ffff:ffff:ffff:ffff:ffff", "2001:db8:aaaa:bbbb:cccc:dddd:eeee:ffff", "::10.1.2.3", "::ffff:255.255.255.255", "::ffff:10.1.2.3", "::FFFF:aaaa:5555", "::fffe:ffff:ffff", "::1:ffff:ffff:ffff", "8000::ffff:ffff:ffff"} {
		accepted := 0
		for n := -5; n < 1100; n++ {
			if checkRead(t, s+"/"+strconv.Itoa(n)) {
				accepted++
			}
			checkRead(t, s+"/0"+strconv.Itoa(n))
			checkRead(t, s+"/"+strconv.Itoa(n)+"/"+strconv.Itoa(n))
			checkRead(t, s+strconv.Itoa(n))
		}
		want := 33
		if strings.Contains(s, ":") {
			want = 129
		}
		if accepted != want {
			t.Fatalf("the test itself: %d numbers of bits of %q", accepted, s)
		}
	}
}

func TestCi3ParseOfManyTexts(t *testing.T) {
	accepted := 0
	for _, s := range []string{"10.1.2.3/8", "10.1.2.3", "255.255.255.255/32", "1.2.3.4/0", "::/0", "::1/128", "2001:db8::8000:1/99", "::ffff:1.2.3.4/104", "::ffff:1.2.3.4/9", "::ffff:1.2.3.4", "::ffff:102:304/128", "1:2:3:4:5:6:7:8/12", "1:2:3:4:5:6:1.2.3.4/120"} {
		for _, x := range append(vary.Texts(s), s) {
			if checkRead(t, x) {
				accepted++
			}
		}
	}
	if accepted < 1000 {
		t.Fatalf("the test itself: only %d of its texts are of a subnet", accepted)
	}
}

func TestCi3ParseOfLongTexts(t *testing.T) {
	for _, n := range []int{1, 2, 20, 1000, 100000} {
		for _, d := range []string{"/", "0", "1", "9", "10.0.0.0/", "/8", " ", "::", "a"} {
			x := strings.Repeat(d, n)
			for _, s := range []string{x + "/8", "10.0.0.0/8" + x, "::/8" + x, "10.0.0.0/" + x, "::ffff:1.2.3.4/" + x} {
				checkRead(t, s)
			}
		}
	}
}

func TestCi4ParseReturnsWhatWasWritten(t *testing.T) {
	for _, a := range bases() {
		d := digits(a)
		for bits := range len(d) + 1 {
			n := net(address(kept(d, bits)), bits)
			checkParse(t, cidr.Text(n), n, true)
			checkParse(t, addr.Text(a)+"/"+strconv.Itoa(bits), n, true)
		}
	}
}

// Parse may return any subnet that is valid, and only those.
func TestCi4WhatIsReadIsValid(t *testing.T) {
	for _, s := range []string{"10.1.2.3", "2001:db8::1", "::ffff:10.1.2.3", "::ffff:ffff:ffff"} {
		for bits := range 129 {
			n, ok := cidr.Parse(s + "/" + strconv.Itoa(bits))
			checkRight(t, n, true)
			if ok {
				checkParse(t, cidr.Text(n), n, true)
			}
		}
	}
}

// members are addresses of a subnet: the first one, the last one, and those that differ from these in one bit.
func members(n api.Net) []api.Addr {
	d := digits(n.Addr)
	last := address(d[:n.Bits] + strings.Repeat("1", len(d)-n.Bits))
	l := []api.Addr{n.Addr, last}
	for i := n.Bits; i < len(d); i++ {
		l = append(l, flipped(n.Addr, i), flipped(last, i))
	}
	return slices.DeleteFunc(l, func(a api.Addr) bool { return !valid(a) })
}

func TestCi4OneLiesWithinTheOtherOrNoneIsInBoth(t *testing.T) {
	l := subnets()
	for i, n := range l {
		all := members(n)
		for _, a := range all {
			checkHas(t, n, a, true)
		}
		// Every eleventh one: each size still meets each other one.
		for k := i % 11; k < len(l); k += 11 {
			m := l[k]
			in, out := cidr.Within(n, m), cidr.Within(m, n)
			if in && out && n != m {
				t.Fatalf("%+v and %+v lie within each other", n, m)
			}
			for _, a := range all {
				if has := cidr.Has(m, a); has && !in && !out || in && !has {
					t.Fatalf("%+v is in %+v; Has(%+v) is %v, but Within is %v and %v", a, n, m, has, in, out)
				}
			}
		}
	}
}
