package addr_test

import (
	"encoding/binary"
	"math"
	"math/big"
	"net/netip"
	"strings"
	"testing"

	"doorman/addr"
	"doorman/api"
	"doorman/vary"
)

func four(n uint64) api.Addr { return api.Addr{Lo: n} }

func six(hi, lo uint64) api.Addr { return api.Addr{V6: true, Hi: hi, Lo: lo} }

// halves are numbers of 64 bits: each bit alone with its neighbours, the limits of the two kinds, and many spread over all.
func halves() []uint64 {
	l := []uint64{0, math.MaxUint64, 0xffffffff, 0xffff00000000, 0xffffffffffff, 0xffff01020304, 0xfffe01020304, 0xfffeffffffff, 0x1000000000000, 0x1ffff00000000, 0x1ffff01020304, 0x8000ffff01020304, 0x7fff01020304, 0x20010db800000000}
	for i := range 64 {
		n := uint64(1) << i
		l = append(l, n-1, n, n+1, ^n)
	}
	for n, at := uint64(1), 0; at < 30; at++ {
		n = n*6364136223846793005 + 1442695040888963407
		l = append(l, n, n>>17, n>>32, n>>32&^0xffff0000, 0xffff<<32|n>>32, n>>16|1<<47)
	}
	return l
}

// some are addresses of all sorts, valid or not.
func some() []api.Addr {
	var l []api.Addr
	for _, n := range halves() {
		l = append(l, four(n), six(0, n), six(n, 0), six(1, n), six(n, 0xffff01020304), six(n, ^n), six(n, n), api.Addr{Hi: n}, api.Addr{Hi: n, Lo: n}, api.Addr{Hi: 1, Lo: n})
	}
	return l
}

// standsFor tells by the 16 bytes of an address of IPv6 whether it represents one of IPv4.
func standsFor(hi, lo uint64) bool {
	var b [16]byte
	binary.BigEndian.PutUint64(b[:8], hi)
	binary.BigEndian.PutUint64(b[8:], lo)
	return netip.AddrFrom16(b).Is4In6()
}

func valid(a api.Addr) bool {
	if a.V6 {
		return !standsFor(a.Hi, a.Lo)
	}
	return a.Hi == 0 && a.Lo <= math.MaxUint32
}

// number is all bits of an address.
func number(a api.Addr) *big.Int {
	n := new(big.Int).SetUint64(a.Hi)
	n.Lsh(n, 64)
	return n.Add(n, new(big.Int).SetUint64(a.Lo))
}

// read is what Parse must return: the library's reader takes zones, too.
func read(s string) (api.Addr, bool) {
	a, err := netip.ParseAddr(s)
	if err != nil || a.Zone() != "" {
		return api.Addr{}, false
	}
	a = a.Unmap()
	if a.Is4() {
		b := a.As4()
		return four(uint64(binary.BigEndian.Uint32(b[:]))), true
	}
	b := a.As16()
	return six(binary.BigEndian.Uint64(b[:8]), binary.BigEndian.Uint64(b[8:])), true
}

func checkParse(t *testing.T, s string, want api.Addr, ok bool) {
	t.Helper()
	if got, good := addr.Parse(s); got != want || good != ok {
		t.Fatalf("Parse(%.90q) is %+v, %v, not %+v, %v", s, got, good, want, ok)
	}
}

func checkText(t *testing.T, a api.Addr, want string) {
	t.Helper()
	if got := addr.Text(a); got != want {
		t.Fatalf("Text(%+v) is %q, not %q", a, got, want)
	}
}

func checkCompare(t *testing.T, a, b api.Addr, want int) {
	t.Helper()
	if got := addr.Compare(a, b); got != want {
		t.Fatalf("Compare(%+v, %+v) is %d, not %d", a, b, got, want)
	}
}

func checkBit(t *testing.T, a api.Addr, i, want int) {
	t.Helper()
	if got := addr.Bit(a, i); got != want {
		t.Fatalf("Bit(%+v, %d) is %d, not %d", a, i, got, want)
	}
}

func TestAd1V4(t *testing.T) {
	for _, n := range halves() {
		low := uint32(n)
		if got := addr.V4(low); got != four(uint64(low)) {
			t.Fatalf("V4(%#x) is %+v", low, got)
		}
	}
}

func TestAd1V6(t *testing.T) {
	for _, c := range []struct {
		hi, lo uint64
		want   api.Addr
	}{
		{0, 0xffff01020304, four(0x01020304)}, {0, 0xffff00000000, four(0)}, {0, 0xffffffffffff, four(0xffffffff)}, {0, 0xffff80000001, four(0x80000001)},
		{0, 0, six(0, 0)}, {0, 1, six(0, 1)}, {0, 0x01020304, six(0, 0x01020304)}, {0, 0xffffffff, six(0, 0xffffffff)}, {0, 0x100000000, six(0, 0x100000000)}, {0, 0xfffeffffffff, six(0, 0xfffeffffffff)}, {0, 0x1000000000000, six(0, 0x1000000000000)}, {0, 0x1ffff00000000, six(0, 0x1ffff00000000)}, {0, 0x7fff01020304, six(0, 0x7fff01020304)}, {0, 0x8000ffff01020304, six(0, 0x8000ffff01020304)}, {0, math.MaxUint64, six(0, math.MaxUint64)},
		{1, 0xffff01020304, six(1, 0xffff01020304)}, {1 << 63, 0xffff01020304, six(1<<63, 0xffff01020304)}, {math.MaxUint64, 0xffff00000000, six(math.MaxUint64, 0xffff00000000)}, {0xffff00000000, 0, six(0xffff00000000, 0)}, {0xffff01020304, 0xffff01020304, six(0xffff01020304, 0xffff01020304)}, {math.MaxUint64, math.MaxUint64, six(math.MaxUint64, math.MaxUint64)},
	} {
		if got := addr.V6(c.hi, c.lo); got != c.want {
			t.Fatalf("V6(%#x, %#x) is %+v, not %+v", c.hi, c.lo, got, c.want)
		}
	}
}

func TestAd1V6OfMany(t *testing.T) {
	for _, a := range some() {
		want := six(a.Hi, a.Lo)
		if standsFor(a.Hi, a.Lo) {
			want = four(a.Lo & 0xffffffff)
		}
		if got := addr.V6(a.Hi, a.Lo); got != want {
			t.Fatalf("V6(%#x, %#x) is %+v, not %+v", a.Hi, a.Lo, got, want)
		}
	}
}

// Each of the 80 bits that must be 0, and each of the 16 that must be 1, decides.
func TestAd1V6OfEachBitOfTheMark(t *testing.T) {
	for i := 32; i < 128; i++ {
		hi, lo := uint64(0), uint64(0xffff01020304)
		if i < 64 {
			lo ^= 1 << i
		} else {
			hi ^= 1 << (i - 64)
		}
		if got := addr.V6(hi, lo); got != six(hi, lo) {
			t.Fatalf("V6(%#x, %#x) is %+v", hi, lo, got)
		}
		if !addr.Right(six(hi, lo)) {
			t.Fatalf("Right(%+v) is false", six(hi, lo))
		}
	}
	for i := range 32 {
		lo := 0xffff01020304 ^ uint64(1)<<i
		if got := addr.V6(0, lo); got != four(lo&0xffffffff) {
			t.Fatalf("V6(0, %#x) is %+v", lo, got)
		}
	}
}

func TestAd1Right(t *testing.T) {
	for _, c := range []struct {
		a    api.Addr
		want bool
	}{
		{api.Addr{}, true}, {four(1), true}, {four(0xffffffff), true}, {four(1 << 32), false}, {four(1<<32 + 1), false}, {four(1 << 63), false}, {four(math.MaxUint64), false}, {four(0xffff01020304), false},
		{api.Addr{Hi: 1}, false}, {api.Addr{Hi: 1 << 63, Lo: 1}, false}, {api.Addr{Hi: math.MaxUint64, Lo: math.MaxUint64}, false}, {api.Addr{Hi: 1 << 32}, false},
		{six(0, 0), true}, {six(0, 1), true}, {six(0, 0xffffffff), true}, {six(math.MaxUint64, math.MaxUint64), true}, {six(0, 0xfffeffffffff), true}, {six(0, 0x1000000000000), true}, {six(1, 0xffff00000000), true}, {six(0, 0x1ffff00000000), true},
		{six(0, 0xffff00000000), false}, {six(0, 0xffff00000001), false}, {six(0, 0xffffffffffff), false}, {six(0, 0xffff01020304), false},
	} {
		if got := addr.Right(c.a); got != c.want {
			t.Fatalf("Right(%+v) is %v", c.a, got)
		}
	}
}

func TestAd1RightOfMany(t *testing.T) {
	for _, a := range some() {
		if got := addr.Right(a); got != valid(a) {
			t.Fatalf("Right(%+v) is %v", a, got)
		}
		if !addr.Right(addr.V4(uint32(a.Lo))) || !addr.Right(addr.V6(a.Hi, a.Lo)) {
			t.Fatalf("what V4 and V6 return of the bits of %+v is not valid", a)
		}
	}
}

func TestAd2ParseByHand(t *testing.T) {
	for _, c := range []struct {
		s    string
		want api.Addr
	}{
		{"0.0.0.0", four(0)}, {"1.2.3.4", four(0x01020304)}, {"255.255.255.255", four(0xffffffff)}, {"128.0.0.1", four(0x80000001)},
		{"::", six(0, 0)}, {"::1", six(0, 1)}, {"2001:DB8::1", six(0x20010db800000000, 1)}, {"ffff:ffff:ffff:ffff:ffff:ffff:ffff:ffff", six(math.MaxUint64, math.MaxUint64)}, {"1:2:3:4:5:6:7:8", six(0x0001000200030004, 0x0005000600070008)},
		{"::ffff:1.2.3.4", four(0x01020304)}, {"::FFFF:102:304", four(0x01020304)}, {"0:0:0:0:0:ffff:0:0", four(0)}, {"::ffff:255.255.255.255", four(0xffffffff)}, {"::ffff:0:0", four(0)},
		{"::1.2.3.4", six(0, 0x01020304)}, {"::fffe:1.2.3.4", six(0, 0xfffe01020304)}, {"::1:ffff:1.2.3.4", six(0, 0x1ffff01020304)}, {"1::ffff:1.2.3.4", six(0x0001<<48, 0xffff01020304)}, {"::ffff:0:1.2.3.4", six(0, 0xffff000001020304)}, {"::ffff", six(0, 0xffff)}, {"64:ff9b::1.2.3.4", six(0x0064ff9b00000000, 0x01020304)},
	} {
		checkParse(t, c.s, c.want, true)
	}
}

func TestAd2ParseOfNoText(t *testing.T) {
	for _, s := range []string{
		"", " ", "nine", "1", "1.2.3", "1.2.3.4.5", "1.2.3.256", "01.2.3.4", "1.2.3.", ".1.2.3", "1.2.3.4 ", " 1.2.3.4", "1.2.3.-4", "16909060", "0x1020304",
		":", ":::", "::1::", "1:2:3:4:5:6:7", "1:2:3:4:5:6:7:8:9", "1:2:3:4:5:6:7:8::", "::12345", "::g", "::1 ", " ::1", "::ffff:1.2.3.256", "::ffff:1.2.3", "1.2.3.4::", "1.2.3.4:80", "[::1]", "::1/128", "1.2.3.4/32", "::1%1", "::\x00", "1.2.3.4\n", "::١", "-",
	} {
		checkParse(t, s, api.Addr{}, false)
	}
}

func TestAd2ParseOfManyTexts(t *testing.T) {
	accepted := 0
	for _, s := range []string{"1.2.3.4", "255.10.100.0", "::", "::ffff:1.2.3.4", "::ffff:102:304", "0:0:0:0:0:FFFF:a:b", "2001:db8::8000:1", "1:2:3:4:5:6:7:8", "1:2:3:4:5:6:1.2.3.4"} {
		for _, x := range append(vary.Texts(s), s) {
			want, ok := read(x)
			checkParse(t, x, want, ok)
			if ok {
				accepted++
			}
		}
	}
	if accepted < 500 {
		t.Fatalf("the test itself: only %d of its texts are of an address", accepted)
	}
}

func TestAd2TextByHand(t *testing.T) {
	for _, c := range []struct {
		a    api.Addr
		want string
	}{
		{four(0), "0.0.0.0"}, {four(0x01020304), "1.2.3.4"}, {four(0xffffffff), "255.255.255.255"}, {four(0x80000001), "128.0.0.1"},
		{six(0, 0), "::"}, {six(0, 1), "::1"}, {six(0x20010db800000000, 1), "2001:db8::1"}, {six(math.MaxUint64, math.MaxUint64), "ffff:ffff:ffff:ffff:ffff:ffff:ffff:ffff"}, {six(0x0001000200030004, 0x0005000600070008), "1:2:3:4:5:6:7:8"}, {six(0, 0x01020304), "::102:304"}, {six(0, 0xfffe01020304), "::fffe:102:304"}, {six(1, 0xffff01020304), "::1:0:ffff:102:304"},
		{four(1 << 32), ""}, {four(math.MaxUint64), ""}, {api.Addr{Hi: 1}, ""}, {api.Addr{Hi: 1 << 63, Lo: 5}, ""}, {six(0, 0xffff01020304), ""}, {six(0, 0xffff00000000), ""}, {six(0, 0xffffffffffff), ""},
	} {
		checkText(t, c.a, c.want)
	}
}

func TestAd2TextOfMany(t *testing.T) {
	for _, a := range some() {
		if !valid(a) {
			checkText(t, a, "")
			continue
		}
		got := addr.Text(a)
		want := "."
		if a.V6 {
			want = ":"
		}
		if back, ok := read(got); !ok || back != a || !strings.Contains(got, want) {
			t.Fatalf("Text(%+v) is %q", a, got)
		}
	}
}

func TestAd3CompareByHand(t *testing.T) {
	rising := []api.Addr{
		four(0), four(1), four(0x01020304), four(0x7fffffff), four(0x80000000), four(0xffffffff), four(1 << 32), four(1 << 63), four(math.MaxUint64), {Hi: 1}, {Hi: 1, Lo: math.MaxUint64}, {Hi: 1 << 63}, {Hi: math.MaxUint64, Lo: math.MaxUint64},
		six(0, 0), six(0, 1), six(0, 0xffff01020304), six(0, 1<<63-1), six(0, 1<<63), six(0, math.MaxUint64), six(1, 0), six(1, 5), six(2, 4), six(1<<63-1, 9), six(1<<63, 0), six(1<<63, 1), six(math.MaxUint64, 0), six(math.MaxUint64, math.MaxUint64),
	}
	for i, a := range rising {
		for k, b := range rising {
			want := 0
			if i < k {
				want = -1
			} else if i > k {
				want = 1
			}
			checkCompare(t, a, b, want)
		}
	}
}

func TestAd3CompareOfMany(t *testing.T) {
	l := some()
	for i, a := range l {
		for k := i % 11; k < len(l); k += 11 {
			b := l[k]
			want := number(a).Cmp(number(b))
			if a.V6 != b.V6 {
				want = 1
				if b.V6 {
					want = -1
				}
			}
			checkCompare(t, a, b, want)
		}
		checkCompare(t, a, a, 0)
	}
}

func TestAd3Bits(t *testing.T) {
	for _, a := range some() {
		want := 32
		if a.V6 {
			want = 128
		}
		if got := addr.Bits(a); got != want {
			t.Fatalf("Bits(%+v) is %d", a, got)
		}
	}
}

func TestAd3BitByHand(t *testing.T) {
	for _, c := range []struct {
		a       api.Addr
		i, want int
	}{
		{four(0x80000000), 0, 1}, {four(0x80000000), 1, 0}, {four(0x80000000), 31, 0}, {four(1), 31, 1}, {four(1), 30, 0}, {four(1), 0, 0}, {four(0x09080706), 4, 1}, {four(0x09080706), 7, 1}, {four(0x09080706), 5, 0}, {four(0x40000000), 1, 1},
		{six(1<<63, 0), 0, 1}, {six(1<<62, 0), 1, 1}, {six(1, 0), 63, 1}, {six(1, 0), 64, 0}, {six(0, 1<<63), 64, 1}, {six(0, 1<<63), 63, 0}, {six(0, 1), 127, 1}, {six(0, 1), 126, 0}, {six(0, 1<<31), 96, 1}, {six(0, 1<<31), 0, 0},
	} {
		checkBit(t, c.a, c.i, c.want)
	}
}

func TestAd3BitOfNoIndex(t *testing.T) {
	for _, i := range []int{-1, -2, -31, -32, -33, -64, -96, -127, -128, 128, 129, 159, 160, 192, 255, 256, 1 << 32, 1<<32 + 1, math.MaxInt, math.MinInt, math.MinInt + 31, math.MinInt + 127} {
		checkBit(t, four(0xffffffff), i, 0)
		checkBit(t, four(math.MaxUint64), i, 0)
		checkBit(t, six(math.MaxUint64, math.MaxUint64), i, 0)
	}
	for i := 32; i < 128; i++ {
		checkBit(t, four(0xffffffff), i, 0)
		checkBit(t, api.Addr{Hi: math.MaxUint64, Lo: math.MaxUint64}, i, 0)
	}
}

func TestAd3BitOfMany(t *testing.T) {
	for _, a := range some() {
		n := number(a)
		count := 32
		if a.V6 {
			count = 128
		}
		for i := range count {
			checkBit(t, a, i, int(n.Bit(count-1-i)))
		}
	}
}

func TestAd4ParseReturnsWhatWasWritten(t *testing.T) {
	for _, a := range some() {
		if valid(a) {
			checkParse(t, addr.Text(a), a, true)
		}
	}
}

// bits are all bits of an address, the highest first.
func bits(a api.Addr) string {
	var l []byte
	for i := range addr.Bits(a) {
		l = append(l, '0'+byte(addr.Bit(a, i)))
	}
	return string(l)
}

func TestAd4EqualIfTheirBitsAre(t *testing.T) {
	seen := map[string]api.Addr{}
	for _, a := range some() {
		if !valid(a) {
			continue
		}
		b, ok := seen[bits(a)]
		if ok && b != a {
			t.Fatalf("%+v and %+v have the same bits", a, b)
		}
		seen[bits(a)] = a
		checkCompare(t, a, a, 0)
		for i := range addr.Bits(a) {
			if c := flipped(a, i); bits(c) == bits(a) || addr.Compare(a, c) == 0 {
				t.Fatalf("%+v and %+v are taken as equal", a, c)
			}
		}
	}
	if len(seen) < 500 {
		t.Fatalf("the test itself: only %d valid addresses", len(seen))
	}
}

// flipped is an address with another value of bit i.
func flipped(a api.Addr, i int) api.Addr {
	n := addr.Bits(a) - 1 - i
	if n >= 64 {
		a.Hi ^= 1 << (n - 64)
	} else {
		a.Lo ^= 1 << n
	}
	return a
}
