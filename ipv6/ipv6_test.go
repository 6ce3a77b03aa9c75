package ipv6_test

import (
	"encoding/binary"
	"net/netip"
	"strconv"
	"strings"
	"testing"

	"doorman/ipv6"
	"doorman/vary"
)

// groups are the eight groups of an address, the highest first.
type groups [8]uint16

func (g groups) halves() (hi, lo uint64) {
	for i := range 4 {
		hi = hi*65536 + uint64(g[i])
		lo = lo*65536 + uint64(g[4+i])
	}
	return hi, lo
}

// full is the text that leaves nothing out; form writes one group.
func (g groups) full(form func(n uint16) string) string {
	l := make([]string, len(g))
	for i, n := range g {
		l[i] = form(n)
	}
	return strings.Join(l, ":")
}

// written is what Text must return: the runs are tried from the longest on, and those of one length from the first on.
func (g groups) written() string {
	l := strings.Split(g.full(short), ":")
	for long := 8; long >= 2; long-- {
		for from := range 9 - long {
			if strings.Join(l[from:from+long], "") == strings.Repeat("0", long) {
				return strings.Join(l[:from], ":") + "::" + strings.Join(l[from+long:], ":")
			}
		}
	}
	return strings.Join(l, ":")
}

func short(n uint16) string { return strconv.FormatUint(uint64(n), 16) }

func padded(n uint16) string { return ("000" + short(n))[len(short(n))-1:] }

func upper(n uint16) string { return strings.ToUpper(short(n)) }

func mixed(n uint16) string {
	s := padded(n)
	return strings.ToUpper(s[:2]) + s[2:]
}

func dotted(a, b uint16) string {
	return strconv.Itoa(int(a/256)) + "." + strconv.Itoa(int(a%256)) + "." + strconv.Itoa(int(b/256)) + "." + strconv.Itoa(int(b%256))
}

// samples are addresses with zeros in every place, beside several kinds of other groups; each bit alone, and all but it; the groups' edges at each place; and many spread over all.
func samples() []groups {
	var l []groups
	for _, fill := range []groups{
		{1, 2, 3, 4, 5, 6, 7, 8}, {0xffff, 0xffff, 0xffff, 0xffff, 0xffff, 0xffff, 0xffff, 0xffff}, {0x2001, 0xdb8, 0x8000, 0x10, 0x100, 0xabcd, 0xfffe, 0xf00d}, {0x10, 0x1000, 0x100, 0xa0, 0xa00, 0xa000, 0x20, 0x30},
	} {
		for pattern := range 256 {
			g := fill
			for i := range g {
				if pattern>>i&1 == 0 {
					g[i] = 0
				}
			}
			l = append(l, g)
		}
	}
	for i := range 128 {
		var g groups
		g[i/16] = 1 << (i % 16)
		l = append(l, g)
		for k := range g {
			g[k] = ^g[k]
		}
		l = append(l, g)
	}
	for i := range 8 {
		for _, n := range []uint16{1, 9, 10, 15, 16, 255, 256, 4095, 4096, 0x7fff, 0x8000, 0xfffe, 0xffff} {
			one, rest := groups{}, groups{1, 1, 1, 1, 1, 1, 1, 1}
			one[i], rest[i] = n, n
			l = append(l, one, rest)
		}
	}
	for n, at := uint64(1), 0; at < 20000; at++ {
		var g groups
		for i := range g {
			n = n*6364136223846793005 + 1442695040888963407
			g[i] = uint16(n >> 48)
			// Many groups of 0, and short ones, as addresses have them.
			if n>>40&3 == 0 {
				g[i] = 0
			} else if n>>40&3 == 1 {
				g[i] %= 256
			}
		}
		l = append(l, g)
	}
	return l
}

// read is what Parse must return: the library's reader takes texts of IPv4, and zones, too, and those of IPv6 as strictly as V61.
func read(s string) (hi, lo uint64, ok bool) {
	a, err := netip.ParseAddr(s)
	if err != nil || !a.Is6() || a.Zone() != "" {
		return 0, 0, false
	}
	b := a.As16()
	return binary.BigEndian.Uint64(b[:8]), binary.BigEndian.Uint64(b[8:]), true
}

func checkParse(t *testing.T, s string, hi, lo uint64, ok bool) {
	t.Helper()
	if h, l, good := ipv6.Parse(s); h != hi || l != lo || good != ok {
		t.Fatalf("Parse(%.90q) is %#x, %#x, %v, not %#x, %#x, %v", s, h, l, good, hi, lo, ok)
	}
}

func checkGroups(t *testing.T, s string, g groups) {
	t.Helper()
	hi, lo := g.halves()
	checkParse(t, s, hi, lo, true)
}

// checkRead holds Parse against read, and tells whether the text is that of an address.
func checkRead(t *testing.T, s string) bool {
	t.Helper()
	hi, lo, ok := read(s)
	checkParse(t, s, hi, lo, ok)
	return ok
}

func checkText(t *testing.T, hi, lo uint64, want string) {
	t.Helper()
	if got := ipv6.Text(hi, lo); got != want {
		t.Fatalf("Text(%#x, %#x) is %q, not %q", hi, lo, got, want)
	}
}

func TestV61ByHand(t *testing.T) {
	for _, c := range []struct {
		s      string
		hi, lo uint64
	}{
		{"::", 0, 0}, {"::0", 0, 0}, {"0::", 0, 0}, {"0::0", 0, 0}, {"0:0:0:0:0:0:0:0", 0, 0}, {"0000:0000:0000:0000:0000:0000:0000:0000", 0, 0}, {"0:0:0::0:0:0:0", 0, 0},
		{"::1", 0, 1}, {"::0001", 0, 1}, {"0:0:0:0:0:0:0:1", 0, 1}, {"0:0:0:0:0:0::1", 0, 1}, {"1::", 0x0001 << 48, 0}, {"1:0:0:0:0:0:0:0", 0x0001 << 48, 0}, {"1:0:0:0:0:0:0::", 0x0001 << 48, 0},
		{"1:2:3:4:5:6:7:8", 0x0001000200030004, 0x0005000600070008}, {"ffff:ffff:ffff:ffff:ffff:ffff:ffff:ffff", 0xffffffffffffffff, 0xffffffffffffffff}, {"FFFF:FFFF:FFFF:FFFF:FFFF:FFFF:FFFF:FFFF", 0xffffffffffffffff, 0xffffffffffffffff},
		{"2001:db8::1", 0x20010db800000000, 1}, {"2001:DB8::1", 0x20010db800000000, 1}, {"2001:0dB8::0001", 0x20010db800000000, 1}, {"fe80::a:b", 0xfe80000000000000, 0xa000b}, {"abcd:ef01:2345:6789::", 0xabcdef0123456789, 0}, {"::abcd:ef01:2345:6789", 0, 0xabcdef0123456789},
		{"::2:3:4:5:6:7:8", 0x0000000200030004, 0x0005000600070008}, {"1::3:4:5:6:7:8", 0x0001000000030004, 0x0005000600070008}, {"1:2:3::5:6:7:8", 0x0001000200030000, 0x0005000600070008}, {"1:2:3:4::6:7:8", 0x0001000200030004, 0x0000000600070008}, {"1:2:3:4:5:6::8", 0x0001000200030004, 0x0005000600000008}, {"1:2:3:4:5:6:7::", 0x0001000200030004, 0x0005000600070000},
		{"::3:4:5:6:7:8", 0x0000000000030004, 0x0005000600070008}, {"1:2:3::6:7:8", 0x0001000200030000, 0x0000000600070008}, {"1:2::8", 0x0001000200000000, 8}, {"1::8", 0x0001000000000000, 8}, {"1:2:3:4::", 0x0001000200030004, 0}, {"::5:6:7:8", 0, 0x0005000600070008},
		{"::ffff:1.2.3.4", 0, 0xffff01020304}, {"::1.2.3.4", 0, 0x01020304}, {"::0.0.0.0", 0, 0}, {"::255.255.255.255", 0, 0xffffffff}, {"1::255.0.128.1", 0x0001 << 48, 0xff008001}, {"64:ff9b::192.0.2.33", 0x0064ff9b00000000, 0xc0000221},
		{"1:2:3:4:5:6:1.2.3.4", 0x0001000200030004, 0x0005000601020304}, {"ffff:ffff:ffff:ffff:ffff:ffff:255.255.255.255", 0xffffffffffffffff, 0xffffffffffffffff}, {"0:0:0:0:0:0:0.0.0.0", 0, 0}, {"0:0:0:0:0:ffff:10.20.30.40", 0, 0xffff0a141e28},
		{"1:2:3:4:5::1.2.3.4", 0x0001000200030004, 0x0005000001020304}, {"::2:3:4:5:6:1.2.3.4", 0x0000000200030004, 0x0005000601020304}, {"1:2::6:1.2.3.4", 0x0001000200000000, 0x0000000601020304},
		{"::10", 0, 0x10}, {"::010", 0, 0x10}, {"::a", 0, 10}, {"::F", 0, 15}, {"10::", 0x0010 << 48, 0},
	} {
		checkParse(t, c.s, c.hi, c.lo, true)
	}
}

func TestV61ParseOfNoText(t *testing.T) {
	for _, s := range []string{
		"", " ", "0", "1", "a", "g", "-", ".", ":", ":::", "::::", "1:", ":1", "1:2", ":1:", "1:::", ":::1", "1:::2", "::1:", ":1::", "::1::", "1::2::", "::1::2", "1::2::3", "::::1", "1::::", "::::::::", ":::::::",
		"1:2:3:4:5:6:7", "1:2:3:4:5:6:7:8:9", "1:2:3:4:5:6:7:", ":2:3:4:5:6:7:8", "1:2:3:4:5:6:7:8:", ":1:2:3:4:5:6:7:8", ":1:2:3:4:5:6:7", "1:2:3:4:5:6:7:8:9:a:b:c:d:e:f:0",
		"1:2:3:4::5:6:7:8", "::1:2:3:4:5:6:7:8", "1:2:3:4:5:6:7:8::", "1:2:3:4:5:6:7::8", "1::2:3:4:5:6:7:8", "1::2:3:4:5:6:7:8:9", "::1:2:3:4:5:6:7:8:9", "0:0:0:0:0:0:0:0::", "1:2:3:4:5:6:7:::", ":::2:3:4:5:6:7:8", "1:::3:4:5:6:7:8", "1:2:3:4:5:6:7:8::9", "1:2::4:5::7:8",
		"00000::", "::00000", "::00001", "::10000", "::0ffff", "::fffff", "::12345", "12345::", "1:2:3:4:5:6:7:00008", "00001:2:3:4:5:6:7:8", "::65536",
		"::g", "g::", "::G", "::0x1", "::1h", "::-1", "::+1", "::-0", "1:2:3:4:5:6:7:g", "g:2:3:4:5:6:7:8", "1:2:3:4:5:6:7:-8", "::/", "::@", "::`", "::f00g", "::1_0", "::1e+", "x::", "::z",
		"1.2.3.4", "1.2.3.4:", ":1.2.3.4", "1.2.3.4::", "1.2.3.4::1", "1.2.3.4::1.2.3.4", "::1.2.3.4::", "::1.2.3.4:5", "::1.2.3.4:", "1:2:3:4:5:1.2.3.4", "1:2:3:4:5:6:7:1.2.3.4", "1:2:3:4:5:6:7:8:1.2.3.4", "1:2:3:4:5:6:1.2.3.4:8", "1:2:3:4:5:1.2.3.4:8", "1.2.3.4:3:4:5:6:7:8", "1:2:3:4:5:1.2.3.4::", "1:2:3:4:1.2.3.4::7", "1.2.3.4:5.6.7.8::", "::1.2.3.4:5.6.7.8", "1:2:3:4:1.2.3.4:5.6.7.8", "1.2.3.4:5.6.7.8:9.10.11.12:13.14.15.16",
		"1:2:3:4:5:6::1.2.3.4", "1::2:3:4:5:6:1.2.3.4", "::1:2:3:4:5:6:1.2.3.4", "1:2:3:4:5:6:1.2.3.4::", "1:2:3:4:5:6:7::1.2.3.4", "1:2:3:4:5:6:::1.2.3.4", ":::1.2.3.4", "1::2::1.2.3.4",
		"::1.2.3", "::1.2.3.4.5", "::1.2.3.", "::.1.2.3", "::1..2.3", "::1.2.3.256", "::256.2.3.4", "::1.2.3.04", "::01.2.3.4", "::00.0.0.0", "::1.2.3.a", "::a.2.3.4", "::1.2", "::.", "::1.", "::1.2.3.-4", "::1.2.3.4 ", ":: 1.2.3.4", "::0x1.2.3.4", "::999.999.999.999", "1:2:3:4:5:6:1.2.3", "1:2:3:4:5:6:1.2.3.256", "1:2:3:4:5:6:7.8", "1:2:3:4:5:6:1.2.3.4.5",
		" ::", ":: ", ": :", "::1 ", " ::1", ":: 1", "1 ::", "::1\n", "\n::1", "::\x00", "\x00::", "::1\x00", "::1\t", "::1\r\n", "1: 2:3:4:5:6:7:8", "1:2:3:4:5:6:7:8 ", "1 2 3 4 5 6 7 8", "1;2;3;4;5;6;7;8", "1.2.3.4.5.6.7.8", "1,2,3,4,5,6,7,8",
		"[::1]", "[::]", "[::1]:80", "::1]", "[::1", "::1/128", "::/0", "2001:db8::/32", "::1%eth0", "fe80::1%1", "::1%", "::1%25eth0", "::1:80.", "\"::1\"", "::*", "*::", "::1,::2", "localhost", "-", "0x1::",
		"：：1", "::١", "::１", "::a\u0301", "1：2：3：4：5：6：7：8", "::\xb1", "::\xff", "\xba\xba1", "::1.2.3.\xb4", "::1。2。3。4",
	} {
		checkParse(t, s, 0, 0, false)
	}
}

// Each number of 16 bits at each place, in each form, and what lies above it.
func TestV61ParseOfEachGroup(t *testing.T) {
	forms := []func(n uint16) string{short, padded, upper, mixed}
	for i := range 8 {
		for n := range 65536 {
			g := groups{1, 2, 3, 4, 5, 6, 7, 8}
			g[i] = uint16(n)
			checkGroups(t, g.full(forms[(n+n/256+i)%4]), g)
		}
		for n := 65536; n < 1<<22; n += 4099 {
			l := strings.Split("1:2:3:4:5:6:7:8", ":")
			l[i] = strconv.FormatInt(int64(n), 16)
			checkParse(t, strings.Join(l, ":"), 0, 0, false)
		}
	}
}

// Each byte of an address of IPv4, with and without a gap.
func TestV61ParseOfEachByte(t *testing.T) {
	for n := range 70000 {
		d := strconv.Itoa(n)
		for i, s := range []string{d + ".2.3.4", "1." + d + ".3.4", "1.2." + d + ".4", "1.2.3." + d} {
			hi, low, all := uint64(0), uint64(0), uint64(0)
			ok := n <= 255
			if ok {
				shift := 24 - 8*i
				hi = 0x0001000200030004
				low = 0x01020304&^(0xff<<shift) | uint64(n)<<shift
				all = 0x0005000600000000 | low
			}
			checkParse(t, "::"+s, 0, low, ok)
			checkParse(t, "1:2:3:4:5:6:"+s, hi, all, ok)
		}
	}
}

// side is what may stand before a gap, or after it, or alone; v4 tells whether its last two groups are written as an address of IPv4.
type side struct {
	text   string
	groups []uint16
	v4     bool
}

// sides are those of up to eleven groups, which count from first on.
func sides(first uint16) []side {
	all := []side{{}}
	var parts []string
	var l []uint16
	for i := range uint16(11) {
		n := first + i
		if i > 0 {
			with := append(parts[:i-1:i-1], dotted(n-1, n))
			all = append(all, side{strings.Join(with, ":"), append(l[:i:i], n), true})
		}
		parts, l = append(parts, short(n)), append(l, n)
		all = append(all, side{strings.Join(parts, ":"), l[:i+1], false})
	}
	return all
}

func TestV61ParseOfEachNumberOfParts(t *testing.T) {
	for _, before := range sides(0x0ff8) {
		for _, after := range sides(0xa1fc) {
			s := before.text + "::" + after.text
			if before.v4 || len(before.groups)+len(after.groups) > 7 {
				checkParse(t, s, 0, 0, false)
				continue
			}
			var g groups
			copy(g[:], before.groups)
			copy(g[8-len(after.groups):], after.groups)
			checkGroups(t, s, g)
		}
		if len(before.groups) == 8 {
			checkGroups(t, before.text, groups(before.groups))
		} else {
			checkParse(t, before.text, 0, 0, false)
		}
	}
}

// joined are all texts of one to most parts, each of them of a list, with colons between them; an empty part makes two adjacent colons.
func joined(parts []string, most int) []string {
	all, last := parts, parts
	for range most - 1 {
		var next []string
		for _, s := range last {
			for _, part := range parts {
				next = append(next, s+":"+part)
			}
		}
		all, last = append(all, next...), next
	}
	return all
}

func TestV61ParseOfManyTexts(t *testing.T) {
	var l []string
	l = append(l, joined([]string{"", "b", "1.2.3.4"}, 10)...)
	l = append(l, joined([]string{"", "0", "Ff", "00.1.2.3"}, 8)...)
	l = append(l, joined([]string{"", "00000", "0000", "fffff", "ffff", "g", "1.2.3", "255.255.255.255", "1.2.3.256"}, 4)...)
	for _, s := range []string{
		"::", "::1", "1::", "1::8", "2001:0dB8::00fF", "1:2:3:4:5:6:7:8", "ffff:0:ffff:0:FFFF:0:9:a", "1:2:3::5:6:7:8", "1:2:3:4:5:6:7::", "::2:3:4:5:6:7:8",
		"::1.2.3.4", "::ffff:100.25.0.249", "1:2:3:4:5:6:1.2.3.4", "1:2:3:4:5::1.2.3.4", "1.2.3.4", "1.2.3.4::", "1:2:3:4:5:6:7", "1:2:3:4:5:6:7:8:9", "1::2::3", "1:2:3:4::5:6:7:8",
	} {
		l = append(l, s)
		l = append(l, vary.Texts(s)...)
	}
	accepted := 0
	for _, s := range l {
		if checkRead(t, s) {
			accepted++
		}
	}
	if accepted < 5000 {
		t.Fatalf("the test itself: only %d of its texts are of an address", accepted)
	}
}

func TestV61ParseOfLongTexts(t *testing.T) {
	for _, n := range []int{9, 10, 16, 64, 255, 256, 257, 264, 1000, 65536, 65544, 1 << 20} {
		for _, s := range []string{strings.Repeat("1:", n), strings.Repeat(":1", n), strings.Repeat("::", n), strings.Repeat("1::", n)} {
			for _, x := range []string{s, s[1:], s[:len(s)-1], s + ":", s + "1", s + "1.2.3.4"} {
				checkParse(t, x, 0, 0, false)
			}
		}
	}
	for _, n := range []int{5, 8, 9, 16, 256, 257, 260, 65536, 65540, 1 << 20} {
		for _, d := range []string{"0", "1", "f", "F", "g", " ", "."} {
			x := strings.Repeat(d, n)
			for _, s := range []string{x, x + "::", "::" + x, x + ":2:3:4:5:6:7:8", "1:2:3:4:5:6:7:" + x, "1:2:3:4::" + x, "::1.2.3." + x, "::" + x + ".2.3.4"} {
				checkParse(t, s, 0, 0, false)
			}
		}
		checkParse(t, "::"+strings.Repeat("0", n)+"1", 0, 0, false)
	}
}

func TestV62ByHand(t *testing.T) {
	for _, c := range []struct {
		hi, lo uint64
		want   string
	}{
		{0, 0, "::"}, {0, 1, "::1"}, {0, 0xffff, "::ffff"}, {0, 0x10000, "::1:0"}, {0, 0xffff01020304, "::ffff:102:304"}, {0, 0x01020304, "::102:304"}, {0, 0x0001000000000000, "::1:0:0:0"}, {1, 0, "0:0:0:1::"}, {1, 1, "::1:0:0:0:1"}, {0x10000, 0, "0:0:1::"},
		{0x0001000000000000, 0, "1::"}, {0x0001000000000000, 1, "1::1"}, {0x20010db800000000, 1, "2001:db8::1"}, {0xfe80000000000000, 0xabcdef, "fe80::ab:cdef"}, {0xffffffffffffffff, 0xffffffffffffffff, "ffff:ffff:ffff:ffff:ffff:ffff:ffff:ffff"},
		{0x0001000200030004, 0x0005000600070008, "1:2:3:4:5:6:7:8"}, {0x0123456789abcdef, 0xfedcba9876543210, "123:4567:89ab:cdef:fedc:ba98:7654:3210"}, {0x1000010000100001, 0xf0000f0000f0000f, "1000:100:10:1:f000:f00:f0:f"},
		{0x0000000200030004, 0x0005000600070008, "0:2:3:4:5:6:7:8"}, {0x0001000000030004, 0x0005000600070008, "1:0:3:4:5:6:7:8"}, {0x0001000200030004, 0x0005000600070000, "1:2:3:4:5:6:7:0"}, {0x0001000200030000, 0x0005000600070008, "1:2:3:0:5:6:7:8"}, {0x0000000200000004, 0x0000000600000008, "0:2:0:4:0:6:0:8"}, {0x0001000000030000, 0x0005000000070000, "1:0:3:0:5:0:7:0"},
		{0x0000000000030004, 0x0005000600070008, "::3:4:5:6:7:8"}, {0x0001000200030004, 0x0005000600000000, "1:2:3:4:5:6::"}, {0x0001000200030000, 0x0000000600070008, "1:2:3::6:7:8"}, {0x0001000000000004, 0x0005000600070008, "1::4:5:6:7:8"},
		{0x0000000000010001, 0x0000000000010001, "::1:1:0:0:1:1"}, {0x0001000000000002, 0x0000000000000003, "1:0:0:2::3"}, {0x0001000000000000, 0x0002000000000000, "1::2:0:0:0"}, {0x0000000000000001, 0x0000000000020000, "::1:0:0:2:0"}, {0x0000000000010000, 0x0000000000020003, "0:0:1::2:3"}, {0x0001000000020000, 0x0000000300000004, "1:0:2::3:0:4"}, {0x0000000100000000, 0x0001000000000001, "0:1::1:0:0:1"}, {0x0000000000010000, 0x0000000100000000, "::1:0:0:1:0:0"}, {0x0001000000000001, 0x0001000000000001, "1::1:1:0:0:1"},
		{0, 0x0002000300040005, "::2:3:4:5"}, {0x0002000300040005, 0, "2:3:4:5::"}, {0x0000000300040005, 0x0006000000000000, "0:3:4:5:6::"}, {0x0000000300040005, 0x0006000700080000, "0:3:4:5:6:7:8:0"},
	} {
		checkText(t, c.hi, c.lo, c.want)
	}
}

// Each set of groups that are 0 is among the samples.
func TestV62TextOfMany(t *testing.T) {
	for _, g := range samples() {
		hi, lo := g.halves()
		checkText(t, hi, lo, g.written())
	}
}

func TestV62TextOfEachGroup(t *testing.T) {
	for i := range 8 {
		for n := range 65536 {
			g := groups{1, 2, 3, 4, 5, 6, 7, 8}
			g[i] = uint16(n)
			hi, lo := g.halves()
			checkText(t, hi, lo, g.full(short))
		}
	}
}

func TestV63ParseReturnsWhatWasWritten(t *testing.T) {
	for _, g := range samples() {
		hi, lo := g.halves()
		checkParse(t, ipv6.Text(hi, lo), hi, lo, true)
		checkParse(t, strings.ToUpper(ipv6.Text(hi, lo)), hi, lo, true)
	}
}

func TestV63ParseOfTheFullText(t *testing.T) {
	for _, g := range samples() {
		for _, form := range []func(n uint16) string{short, padded, upper, mixed} {
			s := g.full(form)
			checkGroups(t, s, g)
			l := strings.Split(s, ":")
			checkGroups(t, strings.Join(l[:6], ":")+":"+dotted(g[6], g[7]), g)
		}
	}
}

// Whatever run of groups of 0 is left out, long or not, the text is read as the same address.
func TestV63ParseOfEachGap(t *testing.T) {
	for _, g := range samples() {
		l := strings.Split(g.full(padded), ":")
		for from := range 8 {
			for to := from + 1; to <= 8 && g[to-1] == 0; to++ {
				head := strings.Join(l[:from], ":") + "::"
				checkGroups(t, head+strings.Join(l[to:], ":"), g)
				if to < 6 {
					checkGroups(t, head+strings.Join(l[to:6], ":")+":"+dotted(g[6], g[7]), g)
				}
				if to == 6 {
					checkGroups(t, head+dotted(g[6], g[7]), g)
				}
			}
		}
	}
}
