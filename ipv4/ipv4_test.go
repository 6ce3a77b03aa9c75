package ipv4_test

import (
	"net/netip"
	"strconv"
	"strings"
	"testing"

	"doorman/ipv4"
	"doorman/vary"
)

// texts are all texts of at most long bytes of a set.
func texts(set string, long int) []string {
	all, last := []string{""}, []string{""}
	for range long {
		var next []string
		for _, s := range last {
			for i := range len(set) {
				next = append(next, s+set[i:i+1])
			}
		}
		all, last = append(all, next...), next
	}
	return all
}

// addresses are those whose bytes are at an edge, each power of two with its neighbours, and many spread over all.
func addresses() []uint32 {
	var l []uint32
	edges := []uint32{0, 1, 9, 10, 99, 100, 127, 128, 200, 254, 255}
	for _, a := range edges {
		for _, b := range edges {
			for _, c := range edges {
				for _, d := range edges {
					l = append(l, a<<24|b<<16|c<<8|d)
				}
			}
		}
	}
	for i := range 32 {
		p := uint32(1) << i
		l = append(l, p-1, p, p+1, -p, -p-1)
	}
	for n := uint64(0); n < 1<<32; n += 20011 {
		l = append(l, uint32(n))
	}
	return l
}

// written is what Text must return.
func written(n uint32) string {
	return strconv.Itoa(int(n/(1<<24))) + "." + strconv.Itoa(int(n/(1<<16)%256)) + "." + strconv.Itoa(int(n/256%256)) + "." + strconv.Itoa(int(n%256))
}

// read is what Parse must return: the library's reader takes texts of IPv6 too, and those of IPv4 as strictly as V41.
func read(s string) (uint32, bool) {
	a, err := netip.ParseAddr(s)
	if err != nil || !a.Is4() {
		return 0, false
	}
	b := a.As4()
	return uint32(b[0])<<24 | uint32(b[1])<<16 | uint32(b[2])<<8 | uint32(b[3]), true
}

func checkText(t *testing.T, n uint32, want string) {
	t.Helper()
	if got := ipv4.Text(n); got != want {
		t.Fatalf("Text(%#x) is %q, not %q", n, got, want)
	}
}

func checkParse(t *testing.T, s string, want uint32, ok bool) {
	t.Helper()
	if got, good := ipv4.Parse(s); got != want || good != ok {
		t.Fatalf("Parse(%.60q) is %#x, %v, not %#x, %v", s, got, good, want, ok)
	}
}

func TestV41ByHand(t *testing.T) {
	for _, c := range []struct {
		n    uint32
		text string
	}{
		{0, "0.0.0.0"}, {1, "0.0.0.1"}, {9, "0.0.0.9"}, {10, "0.0.0.10"}, {99, "0.0.0.99"}, {100, "0.0.0.100"}, {254, "0.0.0.254"}, {255, "0.0.0.255"},
		{0x100, "0.0.1.0"}, {0xff00, "0.0.255.0"}, {0xffff, "0.0.255.255"}, {0x10000, "0.1.0.0"}, {0xff0000, "0.255.0.0"}, {0xffffff, "0.255.255.255"}, {0x1000000, "1.0.0.0"}, {0xff000000, "255.0.0.0"},
		{0x7fffffff, "127.255.255.255"}, {0x80000000, "128.0.0.0"}, {0xfffffffe, "255.255.255.254"}, {0xffffffff, "255.255.255.255"},
		{0x7f000001, "127.0.0.1"}, {0x01020304, "1.2.3.4"}, {0x04030201, "4.3.2.1"}, {0x0a000001, "10.0.0.1"}, {0x0a640a64, "10.100.10.100"}, {0xc0a80001, "192.168.0.1"}, {0xdeadbeef, "222.173.190.239"}, {0xffffff00, "255.255.255.0"},
	} {
		checkText(t, c.n, c.text)
		checkParse(t, c.text, c.n, true)
	}
}

func TestV41TextOfMany(t *testing.T) {
	for _, n := range addresses() {
		checkText(t, n, written(n))
	}
}

// Each byte at each place, and what lies above it.
func TestV41ParseOfEachNumber(t *testing.T) {
	for b := range 70000 {
		d := strconv.Itoa(b)
		ok := b <= 255
		for i, s := range []string{d + ".2.3.4", "1." + d + ".3.4", "1.2." + d + ".4", "1.2.3." + d} {
			want := uint32(0)
			if ok {
				shift := 24 - 8*i
				want = 0x01020304&^(0xff<<shift) | uint32(b)<<shift
			}
			checkParse(t, s, want, ok)
		}
	}
}

func TestV41ParseOfNoText(t *testing.T) {
	for _, s := range []string{
		"", " ", ".", "..", "...", "....", "1", "1.2", "1.2.3", "1.2.3.4.5", "1.2.3.4.5.6", "1.2.3.", ".2.3.4", "1..3.4", "1.2..4", "1..2.3", "1.2.3.4.", ".1.2.3.4", "1.2.3..4", "1..2.3.4", "..1.2.3.4", "1.2.3.4..",
		"127.1", "127.0.1", "2130706433", "16909060", "4294967295", "0", "0.0.0", "0.0.0.0.0",
		"256.2.3.4", "1.256.3.4", "1.2.256.4", "1.2.3.256", "1.2.3.260", "1.2.3.300", "1.2.3.999", "1.2.3.1000", "1.2.3.2550", "1.2.3.65536", "1.2.3.65540", "1.2.3.4294967296", "1.2.3.4294967300", "1.2.3.18446744073709551616", "1.2.3.18446744073709551620", "0.0.0.256", "256.256.256.256", "999.999.999.999",
		"01.2.3.4", "1.02.3.4", "1.2.03.4", "1.2.3.04", "1.2.3.004", "1.2.3.00", "00.0.0.0", "0.0.0.00", "000.000.000.000", "001.002.003.004", "0177.0.0.1", "127.0.0.01", "1.2.3.0255", "1.2.3.00000000000000000004",
		"-1.2.3.4", "1.2.3.-4", "1.2.3.-0", "+1.2.3.4", "1.2.3.+4", "1.2.-3.4", "-0.0.0.0",
		" 1.2.3.4", "1.2.3.4 ", "1. 2.3.4", "1 .2.3.4", "1.2.3.4\n", "\n1.2.3.4", "1.2.3.4\x00", "\x001.2.3.4", "1.2.3.4\t", "1.2.3.4\r\n", "1.2.3 .4", "1 2 3 4", "1.2.3 4",
		"a.b.c.d", "1.2.3.a", "1.2.3.4a", "a1.2.3.4", "0x7f.0.0.1", "7f.0.0.1", "1.2.3.0x4", "1.2.3.f", "1.2.3.4e0", "1_0.2.3.4", "1.2.3.1_0",
		"1,2,3,4", "1:2:3:4", "1.2,3.4", "1/2/3/4", "1.2.3:4", "1.2.3.4:80", "1.2.3.4/32", "1.2.3.4/0", "[1.2.3.4]", "\"1.2.3.4\"", "1.2.3.4%eth0", "*.2.3.4", "1.2.3.*", "1.2.3.4,5.6.7.8",
		"::1.2.3.4", "::ffff:1.2.3.4", "::", "::1", "1::4", "2001:db8::1", "localhost",
		"١.٢.٣.٤", "1.2.3.٤", "１.２.３.４", "1。2。3。4", "1．2．3．4", "1·2·3·4", "1.2.3.\xb4", "1\xae2\xae3\xae4", "\xff.\xff.\xff.\xff", "1.2.3.\xff",
	} {
		checkParse(t, s, 0, false)
	}
}

func TestV41ParseOfManyTexts(t *testing.T) {
	var l []string
	l = append(l, texts("012.", 9)...)
	l = append(l, texts("256.", 9)...)
	l = append(l, texts("0.a", 9)...)
	for _, s := range []string{"0.0.0.0", "1.2.3.4", "10.20.30.40", "99.100.25.249", "127.0.0.1", "255.255.255.255", "192.168.205.2", "1.2.3", "1.2.3.4.5", "1..2.3"} {
		l = append(l, vary.Texts(s)...)
	}
	accepted := 0
	for _, s := range l {
		want, ok := read(s)
		checkParse(t, s, want, ok)
		if ok {
			accepted++
		}
	}
	if accepted < 1000 {
		t.Fatalf("the test itself: only %d of its texts are of an address", accepted)
	}
}

func TestV41ParseOfLongTexts(t *testing.T) {
	for _, n := range []int{5, 8, 16, 64, 255, 256, 257, 260, 1000, 65536, 65540, 1 << 20} {
		checkParse(t, strings.Repeat("1.", n)+"1", 0, false)
		checkParse(t, strings.Repeat(".", n), 0, false)
		for _, d := range []string{"0", "1", "9", "a", " "} {
			x := strings.Repeat(d, n)
			for _, s := range []string{x, x + ".2.3.4", "1." + x + ".3.4", "1.2." + x + ".4", "1.2.3." + x, x + "." + x + "." + x + "." + x} {
				checkParse(t, s, 0, false)
			}
		}
		checkParse(t, "1.2.3."+strings.Repeat("0", n)+"4", 0, false)
	}
}

func TestV42ParseReturnsWhatWasWritten(t *testing.T) {
	for _, n := range addresses() {
		checkParse(t, ipv4.Text(n), n, true)
	}
}

// The parts are those at the edges of a byte and of its digits, and such as are no byte.
func TestV42AcceptedTextIsThatOfItsAddress(t *testing.T) {
	parts := []string{"", "0", "1", "9", "00", "01", "10", "99", "001", "010", "100", "199", "200", "249", "250", "255", "256", "260", "300", "999", "1000", "a", "-1"}
	accepted := 0
	for _, a := range parts {
		for _, b := range parts {
			for _, c := range parts {
				for _, d := range parts {
					s := a + "." + b + "." + c + "." + d
					if n, ok := ipv4.Parse(s); ok {
						accepted++
						checkText(t, n, s)
					}
				}
			}
		}
	}
	// Of the parts 11 are bytes: a Parse that accepts nothing would keep the law.
	if want := 11 * 11 * 11 * 11; accepted != want {
		t.Fatalf("%d texts were accepted, not %d", accepted, want)
	}
}
