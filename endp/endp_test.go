package endp_test

import (
	"encoding/binary"
	"math"
	"net/netip"
	"regexp"
	"strconv"
	"strings"
	"testing"

	"doorman/api"
	"doorman/endp"
	"doorman/vary"
)

func four(n uint64) api.Addr { return api.Addr{Lo: n} }

func six(hi, lo uint64) api.Addr { return api.Addr{V6: true, Hi: hi, Lo: lo} }

func end(a api.Addr, port int) api.End { return api.End{Addr: a, Port: port} }

// place is an address, and its text in that of an end.
type place struct {
	a    api.Addr
	text string
}

// places are valid addresses, rising: the first and the last ones of both kinds, such as lie beside those that represent an address of IPv4, pairs of both kinds with the same fields, and ordinary ones.
func places() []place {
	return []place{
		{four(0), "0.0.0.0"}, {four(1), "0.0.0.1"}, {four(0x01020304), "1.2.3.4"}, {four(0x01020305), "1.2.3.5"}, {four(0x01020329), "1.2.3.41"}, {four(0x0a010203), "10.1.2.3"}, {four(0x7fffffff), "127.255.255.255"}, {four(0x80000000), "128.0.0.0"}, {four(0xc0a80101), "192.168.1.1"}, {four(0xffffffff), "255.255.255.255"},
		{six(0, 0), "[::]"}, {six(0, 1), "[::1]"}, {six(0, 0x01020304), "[::102:304]"}, {six(0, 0xffffffff), "[::ffff:ffff]"}, {six(0, 0xfffe01020304), "[::fffe:102:304]"}, {six(0, 0x1000001020304), "[::1:0:102:304]"}, {six(0, 0x1ffff01020304), "[::1:ffff:102:304]"}, {six(0, math.MaxUint64), "[::ffff:ffff:ffff:ffff]"},
		{six(1, 0), "[0:0:0:1::]"}, {six(1, 0xffff01020304), "[::1:0:ffff:102:304]"}, {six(0x0001000200030004, 0x0005000600070008), "[1:2:3:4:5:6:7:8]"}, {six(0x20010db800000000, 0), "[2001:db8::]"}, {six(0x20010db800000000, 1), "[2001:db8::1]"}, {six(0x20010db800000000, 0x80), "[2001:db8::80]"}, {six(1<<63, 0), "[8000::]"}, {six(0xfe80000000000000, 1), "[fe80::1]"}, {six(math.MaxUint64, math.MaxUint64), "[ffff:ffff:ffff:ffff:ffff:ffff:ffff:ffff]"},
	}
}

// wrong are addresses that are not valid.
func wrong() []api.Addr {
	return []api.Addr{
		four(1 << 32), four(1<<32 | 0x01020304), four(0xffff01020304), four(math.MaxUint64), {Hi: 1}, {Hi: 1, Lo: 0x01020304}, {Hi: 0x20010db800000000, Lo: 1}, {Hi: math.MaxUint64, Lo: math.MaxUint64},
		six(0, 0xffff00000000), six(0, 0xffff00000001), six(0, 0xffff01020304), six(0, 0xffffffffffff),
	}
}

// ports are valid, and rising.
func ports() []int {
	return []int{1, 2, 8, 9, 10, 12, 80, 99, 100, 255, 256, 999, 1000, 8333, 9999, 10000, 32767, 32768, 65534, 65535}
}

// outside are numbers that are no ports: some of them are valid ports modulo 2^16 or 2^32.
func outside() []int {
	return []int{math.MinInt, math.MinInt + 80, -1<<32 + 80, -65536, -65535, -65456, -80, -1, 0, 65536, 65537, 65616, 1 << 17, 1 << 32, 1<<32 + 1, 1<<32 + 80, 1<<48 + 80, 1<<63 - 65536 + 80, math.MaxInt}
}

// ends are valid.
func ends() []api.End {
	var l []api.End
	for _, p := range places() {
		for _, port := range ports() {
			l = append(l, end(p.a, port))
		}
	}
	return l
}

// bad are ends whose address, or whose port, or both are not valid.
func bad() []api.End {
	var l []api.End
	for _, port := range outside() {
		for _, p := range places() {
			l = append(l, end(p.a, port))
		}
	}
	for _, a := range wrong() {
		for _, port := range append(outside(), ports()...) {
			l = append(l, end(a, port))
		}
	}
	return l
}

// flipped are the ends that differ from a valid one in one bit of its address or its port; not all of them are valid.
func flipped(e api.End) []api.End {
	var l []api.End
	for i := range 64 {
		l = append(l, end(api.Addr{V6: e.Addr.V6, Hi: e.Addr.Hi ^ 1<<i, Lo: e.Addr.Lo}, e.Port), end(api.Addr{V6: e.Addr.V6, Hi: e.Addr.Hi, Lo: e.Addr.Lo ^ 1<<i}, e.Port), end(e.Addr, e.Port^1<<i))
	}
	return append(l, end(api.Addr{V6: !e.Addr.V6, Hi: e.Addr.Hi, Lo: e.Addr.Lo}, e.Port))
}

// valid tells by the fields whether an end may be.
func valid(e api.End) bool {
	a := e.Addr
	if e.Port < 1 || e.Port > 65535 {
		return false
	}
	if a.V6 {
		return a.Hi != 0 || a.Lo < 0xffff00000000 || a.Lo > 0xffffffffffff
	}
	return a.Hi == 0 && a.Lo <= math.MaxUint32
}

// some are valid ends, and those beside each of them.
func some() []api.End {
	l := ends()
	for _, p := range places() {
		for _, e := range flipped(end(p.a, 8333)) {
			if valid(e) {
				l = append(l, e)
			}
		}
	}
	return l
}

var port = regexp.MustCompile(`:[1-9][0-9]*\z`)

// read is what Parse must return: the library's reader takes zones, leading zeros and the port 0, too.
func read(s string) (api.End, bool) {
	p, err := netip.ParseAddrPort(s)
	if err != nil || p.Addr().Zone() != "" || !port.MatchString(s) {
		return api.End{}, false
	}
	a := p.Addr().Unmap()
	if a.Is4() {
		b := a.As4()
		return end(four(uint64(binary.BigEndian.Uint32(b[:]))), int(p.Port())), true
	}
	b := a.As16()
	return end(six(binary.BigEndian.Uint64(b[:8]), binary.BigEndian.Uint64(b[8:])), int(p.Port())), true
}

func checkRight(t *testing.T, e api.End, want bool) {
	t.Helper()
	if got := endp.Right(e); got != want {
		t.Fatalf("Right(%+v) is %v", e, got)
	}
}

func checkText(t *testing.T, e api.End, want string) {
	t.Helper()
	if got := endp.Text(e); got != want {
		t.Fatalf("Text(%+v) is %q, not %q", e, got, want)
	}
}

func checkParse(t *testing.T, s string, want api.End, ok bool) {
	t.Helper()
	if got, good := endp.Parse(s); got != want || good != ok {
		t.Fatalf("Parse(%.90q) is %+v, %v, not %+v, %v", s, got, good, want, ok)
	}
}

// checkRead holds Parse against read, and tells whether the text is that of an end.
func checkRead(t *testing.T, s string) bool {
	t.Helper()
	want, ok := read(s)
	checkParse(t, s, want, ok)
	return ok
}

// checkRising compares each of the ends with each: the list is rising, and no end stands twice in it.
func checkRising(t *testing.T, l []api.End) {
	t.Helper()
	for i, a := range l {
		for k, b := range l {
			want := 0
			if i < k {
				want = -1
			} else if i > k {
				want = 1
			}
			if got := endp.Compare(a, b); got != want {
				t.Fatalf("Compare(%+v, %+v) is %d, not %d", a, b, got, want)
			}
		}
	}
}

func TestEn1RightByHand(t *testing.T) {
	for _, c := range []struct {
		e    api.End
		want bool
	}{
		{end(four(0x01020304), 80), true}, {end(four(0x01020304), 1), true}, {end(four(0x01020304), 65535), true}, {end(four(0), 1), true}, {end(four(0xffffffff), 65535), true}, {end(six(0, 0), 1), true}, {end(six(0, 1), 80), true}, {end(six(math.MaxUint64, math.MaxUint64), 65535), true}, {end(six(0, 0xfffe01020304), 80), true}, {end(six(1, 0xffff01020304), 80), true},
		{api.End{}, false}, {end(four(0x01020304), 0), false}, {end(four(0x01020304), -1), false}, {end(four(0x01020304), 65536), false}, {end(four(0x01020304), 65616), false}, {end(four(0x01020304), -80), false}, {end(four(0x01020304), math.MaxInt), false}, {end(four(0x01020304), math.MinInt), false}, {end(six(0, 1), 0), false}, {end(six(0, 1), 65536), false}, {end(six(0, 1), -1), false},
		{end(four(1<<32), 80), false}, {end(four(math.MaxUint64), 65535), false}, {end(api.Addr{Hi: 1}, 80), false}, {end(api.Addr{Hi: 1 << 63, Lo: 1}, 1), false}, {end(six(0, 0xffff00000000), 80), false}, {end(six(0, 0xffff01020304), 80), false}, {end(six(0, 0xffffffffffff), 1), false}, {end(four(1<<32), 0), false}, {end(six(0, 0xffff01020304), 65536), false},
	} {
		checkRight(t, c.e, c.want)
	}
}

func TestEn1RightOfMany(t *testing.T) {
	for _, e := range ends() {
		checkRight(t, e, true)
	}
	for _, e := range bad() {
		checkRight(t, e, false)
	}
}

func TestEn1RightOfEachPort(t *testing.T) {
	for n := -70000; n <= 140000; n++ {
		for _, a := range []api.Addr{four(0), four(0x01020304), six(0, 0), six(0x20010db800000000, 1)} {
			checkRight(t, end(a, n), 0 < n && n < 65536)
		}
		checkRight(t, end(four(1<<32), n), false)
	}
}

func TestEn1RightOfEachBit(t *testing.T) {
	for _, e := range ends() {
		for _, x := range flipped(e) {
			checkRight(t, x, valid(x))
		}
	}
}

func TestEn1TextByHand(t *testing.T) {
	for _, c := range []struct {
		e    api.End
		want string
	}{
		{end(four(0x01020304), 80), "1.2.3.4:80"}, {end(four(0), 1), "0.0.0.0:1"}, {end(four(0xffffffff), 65535), "255.255.255.255:65535"}, {end(four(0x0a010203), 8333), "10.1.2.3:8333"}, {end(four(0x01020304), 10), "1.2.3.4:10"},
		{end(six(0, 1), 80), "[::1]:80"}, {end(six(0, 0), 1), "[::]:1"}, {end(six(0x20010db800000000, 1), 65535), "[2001:db8::1]:65535"}, {end(six(0x0001000200030004, 0x0005000600070008), 9), "[1:2:3:4:5:6:7:8]:9"}, {end(six(0, 0x01020304), 80), "[::102:304]:80"}, {end(six(1, 0xffff01020304), 80), "[::1:0:ffff:102:304]:80"}, {end(six(math.MaxUint64, math.MaxUint64), 100), "[ffff:ffff:ffff:ffff:ffff:ffff:ffff:ffff]:100"},
		{api.End{}, "-"}, {end(four(0x01020304), 0), "-"}, {end(four(0x01020304), -1), "-"}, {end(four(0x01020304), 65536), "-"}, {end(six(0, 1), 0), "-"}, {end(six(0, 1), 65536), "-"}, {end(four(1<<32), 80), "-"}, {end(api.Addr{Hi: 1}, 80), "-"}, {end(six(0, 0xffff01020304), 80), "-"}, {end(six(0, 0xffff01020304), 0), "-"},
	} {
		checkText(t, c.e, c.want)
	}
}

func TestEn1TextOfMany(t *testing.T) {
	for _, p := range places() {
		for _, n := range ports() {
			checkText(t, end(p.a, n), p.text+":"+strconv.Itoa(n))
		}
	}
}

func TestEn1TextOfEachPort(t *testing.T) {
	for n := -70000; n <= 140000; n++ {
		bare, framed := "-", "-"
		if 0 < n && n < 65536 {
			bare, framed = "1.2.3.4:"+strconv.Itoa(n), "[::1]:"+strconv.Itoa(n)
		}
		checkText(t, end(four(0x01020304), n), bare)
		checkText(t, end(six(0, 1), n), framed)
	}
}

func TestEn1TextOfNoEnd(t *testing.T) {
	for _, e := range bad() {
		checkText(t, e, "-")
	}
}

func TestEn1ParseByHand(t *testing.T) {
	for _, c := range []struct {
		s    string
		want api.End
	}{
		{"1.2.3.4:80", end(four(0x01020304), 80)}, {"0.0.0.0:1", end(four(0), 1)}, {"255.255.255.255:65535", end(four(0xffffffff), 65535)}, {"1.2.3.4:1", end(four(0x01020304), 1)}, {"1.2.3.4:65535", end(four(0x01020304), 65535)}, {"10.1.2.3:10", end(four(0x0a010203), 10)},
		{"[::1]:80", end(six(0, 1), 80)}, {"[::]:1", end(six(0, 0), 1)}, {"[::]:65535", end(six(0, 0), 65535)}, {"[2001:DB8::0:1]:8333", end(six(0x20010db800000000, 1), 8333)}, {"[1:2:3:4:5:6:7:8]:9", end(six(0x0001000200030004, 0x0005000600070008), 9)}, {"[1::]:80", end(six(1<<48, 0), 80)}, {"[0:0:0:0:0:0:0:80]:80", end(six(0, 0x80), 80)}, {"[FFFF:ffff:FFFF:ffff:FFFF:ffff:FFFF:ffff]:65534", end(six(math.MaxUint64, math.MaxUint64), 65534)},
		{"[::ffff:1.2.3.4]:80", end(four(0x01020304), 80)}, {"[::FFFF:102:304]:80", end(four(0x01020304), 80)}, {"[0:0:0:0:0:ffff:0:0]:1", end(four(0), 1)}, {"[0000:0000:0000:0000:0000:ffff:255.255.255.255]:65535", end(four(0xffffffff), 65535)},
		{"[::1.2.3.4]:80", end(six(0, 0x01020304), 80)}, {"[::fffe:1.2.3.4]:80", end(six(0, 0xfffe01020304), 80)}, {"[1::ffff:1.2.3.4]:80", end(six(1<<48, 0xffff01020304), 80)}, {"[64:ff9b::1.2.3.4]:80", end(six(0x0064ff9b00000000, 0x01020304), 80)}, {"[::ffff]:80", end(six(0, 0xffff), 80)},
	} {
		checkParse(t, c.s, c.want, true)
	}
}

func TestEn1ParseOfNoText(t *testing.T) {
	for _, s := range []string{
		"", " ", "-", ":", "::", ":::", "80", ":80", "::80", ":::80", "-:80", "nine:80", "1.2.3.4", "1.2.3.4:", "1.2.3.4 80", "1.2.3.4.80", "1.2.3.4;80", "1.2.3.4/80", "1.2.3.4::80", "1.2.3.4:80:", ":1.2.3.4:80", "1.2.3.4:80:80", "80:1.2.3.4", "1.2.3.4: 80", "1.2.3.4 :80", " 1.2.3.4:80", "1.2.3.4:80 ", "1.2.3.4:80\n", "1.2.3.4:80\x00", "1.2.3.4/32:80",
		"1.2.3.4:0", "1.2.3.4:00", "1.2.3.4:-0", "1.2.3.4:-1", "1.2.3.4:-80", "1.2.3.4:+80", "1.2.3.4:080", "1.2.3.4:65536", "1.2.3.4:65616", "1.2.3.4:99999", "1.2.3.4:655350", "1.2.3.4:4294967376", "1.2.3.4:18446744073709551696", "1.2.3.4:0x50", "1.2.3.4:8a", "1.2.3.4:8_0", "1.2.3.4:80.0", "1.2.3.4:8e1", "1.2.3.4:http", "1.2.3.4:٨",
		"1.2.3:80", "1.2.3.4.5:80", "1.2.3.256:80", "01.2.3.4:80", "1.2.3.:80", "1.2.3.-4:80", "16909060:80",
		"[1.2.3.4]:80", "[1.2.3.4:80]", "[1.2.3.4:80", "1.2.3.4]:80", "[1.2.3.4:80]:80", "[1.2.3.4]80", "[]:80", "[:80", "]:80", "][:80", "[:]:80", "[:::80", "[-]:80", "[", "]", "[]", "[]:", "[:]",
		"::1:80", "::1", "[::1]", "[::1]:", "[::1]80", "[::1] :80", "[::1]::80", "[::1]:80:80", "[::1:80", "[::1:80]", "::1]:80", "[::1].80", "[[::1]]:80", "[[::1]:80", "[::1]]:80", "[][::1]:80", "]::1[:80", "(::1):80", "{::1}:80", "[ ::1]:80", "[::1 ]:80", " [::1]:80", "[::1]:80 ", "[::1]:80\n", "[\n::1]:80", "x[::1]:80", "[::1]x:80", "[::1]:[80]",
		"[::1]:0", "[::1]:00", "[::1]:-1", "[::1]:+1", "[::1]:080", "[::1]:65536", "[::1]:99999", "[::1]:65616", "[::1]:0x50",
		"1:2:3:4:5:6:7:8:80", "[1:2:3:4:5:6:7]:80", "[1:2:3:4:5:6:7:8:9]:80", "[1:2:3:4:5:6:7:8::]:80", "[::1::]:80", "[:::]:80", "[::12345]:80", "[::g]:80", "[::1%1]:80", "[::1%eth0]:80", "[::1/128]:80", "::ffff:1.2.3.4:80", "[::ffff:1.2.3.256]:80", "[::ffff:1.2.3.4:80", "::ffff:1.2.3.4]:80", "[1.2.3.4::]:80", "[[1.2.3.4]]:80",
	} {
		checkParse(t, s, api.End{}, false)
	}
}

func TestEn1ParseOfEachPort(t *testing.T) {
	for n := range 140000 {
		digits := strconv.Itoa(n)
		for _, p := range []place{{four(0x01020304), "1.2.3.4"}, {six(0, 1), "[::1]"}, {four(0x01020304), "[::ffff:1.2.3.4]"}} {
			if 0 < n && n < 65536 {
				checkParse(t, p.text+":"+digits, end(p.a, n), true)
			} else {
				checkParse(t, p.text+":"+digits, api.End{}, false)
			}
			checkParse(t, p.text+":0"+digits, api.End{}, false)
			checkParse(t, p.text+":-"+digits, api.End{}, false)
			checkParse(t, p.text+digits, api.End{}, false)
		}
	}
}

// All that may stand around an address of each kind, and between it and the port.
func TestEn1ParseOfEachFrame(t *testing.T) {
	accepted := 0
	for _, a := range []string{"", "1.2.3.4", "::1", "::", "1::", "2001:db8::1", "::ffff:1.2.3.4", "::FFFF:102:304", "1:2:3:4:5:6:7:8", "1:2:3:4:5:6:1.2.3.4", "1.2.3.4:80", "[::1]", "[1.2.3.4]"} {
		for _, before := range []string{"", "[", "[[", "]", "[]", "(", "{", ":", " ", "0", "1", "-", "/"} {
			for _, after := range []string{"", "]", "]]", "[", "[]", ")", "}", ":", " ", "0", "1", "]1", ".", "%"} {
				for _, between := range []string{"", ":", "::", ": ", " :", ":0", ":-", ".", ";", "/", " ", "]:", "[:", ":[", ":]"} {
					if checkRead(t, before+a+after+between+"80") {
						accepted++
					}
				}
			}
		}
	}
	if accepted < 20 {
		t.Fatalf("the test itself: only %d of its texts are of an end", accepted)
	}
}

func TestEn1ParseOfManyTexts(t *testing.T) {
	accepted := 0
	for _, s := range []string{"1.2.3.4:80", "255.10.100.0:65535", "0.0.0.0:1", "[::]:6553", "[::1]:65535", "[::ffff:1.2.3.4]:80", "[::ffff:102:304]:1", "[0:0:0:0:0:FFFF:a:b]:99", "[2001:db8::8000:1]:8333", "[1:2:3:4:5:6:7:8]:9", "[1:2:3:4:5:6:1.2.3.4]:10", "[1.2.3.4]:80", "::1:80", "1.2.3.4", "[::1]", "-"} {
		for _, x := range append(vary.Texts(s), s) {
			if checkRead(t, x) {
				accepted++
			}
		}
	}
	if accepted < 1000 {
		t.Fatalf("the test itself: only %d of its texts are of an end", accepted)
	}
}

func TestEn1ParseOfLongTexts(t *testing.T) {
	for _, long := range []int{20, 21, 64, 1000, 100000} {
		for _, c := range []string{"0", "1", "9", ":", "[", "]", ".", "a", "-", " ", "[]", "]:", "::1", "1."} {
			more := strings.Repeat(c, long)
			for _, s := range []string{more, more + "1.2.3.4:80", "1.2.3.4" + more + ":80", "1.2.3.4:" + more + "80", "1.2.3.4:80" + more, more + "[::1]:80", "[" + more + "::1]:80", "[::1" + more + "]:80", "[::1]" + more + ":80", "[::1]:" + more + "80", "[::1]:80" + more} {
				checkParse(t, s, api.End{}, false)
			}
		}
	}
}

func TestEn2CompareByHand(t *testing.T) {
	checkRising(t, []api.End{
		end(four(0), 1), end(four(0), 65535), end(four(1), 1), end(four(0x01020304), 1), end(four(0x01020304), 2), end(four(0x01020304), 9), end(four(0x01020304), 10), end(four(0x01020304), 80), end(four(0x01020304), 65535), end(four(0x01020305), 1), end(four(0x01020305), 80), end(four(0x0a000000), 7), end(four(0xffffffff), 1), end(four(0xffffffff), 65535),
		end(six(0, 0), 1), end(six(0, 0), 2), end(six(0, 1), 1), end(six(0, 1), 80), end(six(0, 0x01020304), 80), end(six(0, math.MaxUint64), 5), end(six(1, 0), 4), end(six(1, 7), 3), end(six(2, 6), 2), end(six(1<<63, 0), 1), end(six(math.MaxUint64, math.MaxUint64), 1), end(six(math.MaxUint64, math.MaxUint64), 65535),
	})
}

func TestEn2CompareOfMany(t *testing.T) {
	checkRising(t, ends())
}

// The order is one of all ends, whether they are valid or not.
func TestEn2CompareOfNoEnds(t *testing.T) {
	var l []api.End
	for _, a := range []api.Addr{
		four(0), four(0x01020304), four(0xffffffff), four(1 << 32), four(1<<32 | 0x01020304), four(math.MaxUint64), {Hi: 1}, {Hi: 1, Lo: 5}, {Hi: math.MaxUint64},
		six(0, 0), six(0, 0xfffeffffffff), six(0, 0xffff00000000), six(0, 0xffff01020304), six(0, 0xffffffffffff), six(0, 0x1000000000000), six(1, 0), six(math.MaxUint64, math.MaxUint64),
	} {
		for _, n := range []int{math.MinInt, math.MinInt + 1, -1 << 32, -65536, -80, -1, 0, 1, 80, 65535, 65536, 65537, 1 << 32, math.MaxInt - 1, math.MaxInt} {
			l = append(l, end(a, n))
		}
	}
	checkRising(t, l)
}

func TestEn3ParseReturnsWhatWasWritten(t *testing.T) {
	for _, e := range some() {
		checkParse(t, endp.Text(e), e, true)
	}
	for _, e := range bad() {
		checkParse(t, endp.Text(e), api.End{}, false)
	}
}

func TestEn3EqualIfTheirTextsAre(t *testing.T) {
	seen := map[string]api.End{}
	for _, e := range some() {
		s := endp.Text(e)
		if other, ok := seen[s]; ok && other != e {
			t.Fatalf("%+v and %+v have the same text %q", e, other, s)
		}
		seen[s] = e
	}
	distinct := map[api.End]bool{}
	for _, e := range some() {
		distinct[e] = true
	}
	if len(seen) != len(distinct) || len(seen) < 2000 {
		t.Fatalf("%d texts of %d ends", len(seen), len(distinct))
	}
}

// Texts of one end, written in several ways, give ends that are equal, and of one text.
func TestEn3TextsOfOneEnd(t *testing.T) {
	for _, l := range [][]string{
		{"1.2.3.4:80", "[::ffff:1.2.3.4]:80", "[::ffff:102:304]:80", "[0:0:0:0:0:FFFF:0102:0304]:80"},
		{"[2001:db8::1]:80", "[2001:DB8:0:0:0:0:0:1]:80", "[2001:0db8::0001]:80", "[2001:db8::0.0.0.1]:80"},
		{"[::102:304]:80", "[::1.2.3.4]:80", "[0:0:0:0:0:0:102:304]:80"},
	} {
		for _, s := range l {
			one, first := endp.Parse(l[0])
			e, ok := endp.Parse(s)
			if !first || !ok || e != one || endp.Compare(e, one) != 0 {
				t.Fatalf("%q and %q are read as %+v and %+v", l[0], s, one, e)
			}
			checkText(t, e, l[0])
		}
	}
}
