package banfile_test

import (
	"cmp"
	"encoding/binary"
	"fmt"
	"math"
	"math/rand"
	"net/netip"
	"regexp"
	"slices"
	"strconv"
	"strings"
	"sync"
	"testing"

	"doorman/api"
	"doorman/banfile"
	"doorman/vary"
)

// last is the last tick.
const last = 1099511627776

// bytes and feeds are the most that a text can have.
const (
	bytes = 65536
	feeds = 4096
)

// fields is an address with the bits of the library's; one that stands in IPv6 for one of IPv4 stays there, where it is not valid.
func fields(a netip.Addr) api.Addr {
	whole := a.As16()
	hi, lo := binary.BigEndian.Uint64(whole[:8]), binary.BigEndian.Uint64(whole[8:])
	if a.Is4() {
		return api.Addr{Lo: lo & math.MaxUint32}
	}
	return api.Addr{V6: true, Hi: hi, Lo: lo}
}

// net is the subnet of a text, not masked: 10.1.2.3/8 is not valid.
func net(s string) api.Net {
	p := netip.MustParsePrefix(s)
	return api.Net{Addr: fields(p.Addr()), Bits: p.Bits()}
}

func held(n api.Net, until int) api.Ban { return api.Ban{Net: n, Until: until} }

// one is the ban of a text as 10.0.0.0/8=50, valid or not.
func one(s string) api.Ban {
	n, number, _ := strings.Cut(s, "=")
	until, err := strconv.Atoi(number)
	if err != nil {
		panic(s)
	}
	return held(net(n), until)
}

// list are the bans of a text.
func list(s string) []api.Ban {
	var l []api.Ban
	for _, x := range strings.Fields(s) {
		l = append(l, one(x))
	}
	return l
}

// file are the lines of a text in which each is followed by a bar.
func file(s string) string { return strings.ReplaceAll(s, "|", "\n") }

// library is an address as the library's; not valid if the address is not.
func library(a api.Addr) netip.Addr {
	var b [16]byte
	binary.BigEndian.PutUint64(b[:8], a.Hi)
	binary.BigEndian.PutUint64(b[8:], a.Lo)
	x := netip.AddrFrom16(b)
	switch {
	case a.V6 && !x.Is4In6():
		return x
	case !a.V6 && a.Hi == 0 && a.Lo>>32 == 0:
		return netip.AddrFrom4([4]byte(b[12:]))
	}
	return netip.Addr{}
}

// row is the line of a ban with its line feed; empty for one that is not valid.
func row(b api.Ban) string {
	p := netip.PrefixFrom(library(b.Net.Addr), b.Net.Bits)
	if !p.IsValid() || p != p.Masked() || b.Until <= 0 || b.Until > last {
		return ""
	}
	return fmt.Sprintf("%v until %d\n", p, b.Until)
}

// rows is what Text must return.
func rows(l []api.Ban) string {
	var s []string
	for _, b := range l {
		s = append(s, row(b))
	}
	return strings.Join(s, "")
}

var form = regexp.MustCompile(`\A([^ ]+) until ([1-9][0-9]{0,12})\z`)

// read is the ban whose line a text is: the library reads the subnet and the number.
func read(s string) (api.Ban, bool) {
	found := form.FindStringSubmatch(s)
	if found == nil {
		return api.Ban{}, false
	}
	p, err := netip.ParsePrefix(found[1])
	if err != nil {
		return api.Ban{}, false
	}
	until, _ := strconv.Atoi(found[2])
	b := held(api.Net{Addr: fields(p.Addr()), Bits: p.Bits()}, until)
	return b, row(b) == s+"\n"
}

// order compares bans by their subnets' fields: IPv4 first.
func order(a, b api.Ban) int {
	kind := map[bool]int{false: 4, true: 6}
	x, y := a.Net.Addr, b.Net.Addr
	return cmp.Or(cmp.Compare(kind[x.V6], kind[y.V6]), cmp.Compare(x.Hi, y.Hi), cmp.Compare(x.Lo, y.Lo), cmp.Compare(a.Net.Bits, b.Net.Bits))
}

var whole = regexp.MustCompile(`\A(?:[ -~]*\n)*\z`)

// parsed is what Parse must return.
func parsed(s string, most int) ([]api.Ban, int, api.Errno) {
	if len(s) > bytes || strings.Count(s, "\n") > feeds {
		return nil, 0, api.ErrLong
	}
	if !whole.MatchString(s) {
		return nil, 0, api.ErrForm
	}
	var l []api.Ban
	for s != "" {
		line, rest, _ := strings.Cut(s, "\n")
		at := len(l) + 1
		b, ok := read(line)
		if !ok {
			return nil, at, api.ErrForm
		}
		if slices.ContainsFunc(l, func(x api.Ban) bool { return x.Net == b.Net }) {
			return nil, at, api.ErrTwice
		}
		if len(l) >= most {
			return nil, at, api.ErrFull
		}
		l, s = append(l, b), rest
	}
	slices.SortFunc(l, order)
	return l, 0, api.OK
}

// brief is the beginning of what is told of a thing.
func brief(x any) string { return fmt.Sprintf("%.900s", fmt.Sprintf("%+v", x)) }

func checkText(t *testing.T, l []api.Ban, want string) {
	t.Helper()
	before := slices.Clone(l)
	if got := banfile.Text(l); got != want {
		t.Fatalf("Text(%s) is %.900q, not %.900q", brief(l), got, want)
	}
	if !slices.Equal(l, before) {
		t.Fatalf("%s has become %s", brief(before), brief(l))
	}
}

func checkParse(t *testing.T, s string, most int, want []api.Ban, at int, fails api.Errno) {
	t.Helper()
	got, place, e := banfile.Parse(s, most)
	if !slices.Equal(got, want) || place != at || e != fails {
		t.Fatalf("Parse(%.900q, %d) of %d bytes is %s, %d, %d, not %s, %d, %d", s, most, len(s), brief(got), place, e, brief(want), at, fails)
	}
}

// checkNone is checkParse for an error.
func checkNone(t *testing.T, s string, most, at int, fails api.Errno) {
	t.Helper()
	checkParse(t, s, most, nil, at, fails)
}

// hold holds Parse against parsed, and returns the error.
func hold(t *testing.T, s string, most int) api.Errno {
	t.Helper()
	want, at, fails := parsed(s, most)
	checkParse(t, s, most, want, at, fails)
	return fails
}

// rising are valid subnets in order: the first and the last ones of both kinds, some inside each other, and some of both kinds that have the same numbers.
func rising() []api.Net {
	var l []api.Net
	for _, s := range strings.Fields("0.0.0.0/0 0.0.0.0/1 0.0.0.0/31 0.0.0.0/32 0.0.0.1/32 9.0.0.0/8 10.0.0.0/7 10.0.0.0/8 10.0.0.0/9 10.1.0.0/16 10.1.2.0/24 10.1.2.2/31 10.1.2.3/32 10.128.0.0/9 11.0.0.0/8 100.0.0.0/8 128.0.0.0/1 255.255.255.254/31 255.255.255.255/32 ::/0 ::/1 ::/32 ::/128 ::1/128 ::a00:0/104 ::a01:203/128 ::ffc0:0:0/90 ::1:0:0:0/96 ::8000:0:0:0/65 0:0:0:1::/64 a00::/8 2001:db8::/32 2001:db8::/128 2001:db8::1/128 2001:db8:0:1::/64 2001:db9::/32 8000::/1 ffff:ffff:ffff:ffff:ffff:ffff:ffff:ffff/128") {
		l = append(l, net(s))
	}
	return l
}

// broken are subnets that are not valid: bits behind the first ones, wrong numbers of bits, wrong addresses.
func broken() []api.Net {
	ten := net("10.0.0.0/8").Addr
	six := net("2001:db8::/32").Addr
	return []api.Net{
		net("10.1.2.3/8"), net("10.0.0.0/6"), net("0.0.0.1/31"), net("128.0.0.0/0"), net("::1/127"), net("2001:db8::1/32"), net("::ffff:10.0.0.0/104"), net("::ffff:0.0.0.0/96"), net("::ffff:10.1.2.3/128"),
		{Addr: ten, Bits: -1}, {Addr: ten, Bits: 33}, {Addr: ten, Bits: 104}, {Addr: ten, Bits: 1<<32 + 8}, {Addr: ten, Bits: math.MinInt}, {Addr: ten, Bits: math.MaxInt}, {Bits: -1}, {Addr: api.Addr{V6: true}, Bits: -1}, {Addr: api.Addr{V6: true}, Bits: 129}, {Addr: six, Bits: 256},
		{Addr: api.Addr{Hi: 1, Lo: ten.Lo}, Bits: 8}, {Addr: api.Addr{Lo: 1<<32 | ten.Lo}, Bits: 8}, {Addr: api.Addr{Lo: 1 << 32}}, {Addr: api.Addr{Hi: math.MaxUint64, Lo: math.MaxUint64}, Bits: 32},
	}
}

// inside and outside are numbers until which a valid ban lasts, and does not.
func inside() []int {
	return []int{1, 2, 9, 10, 50, 65536, 1<<32 + 1, 999999999999, last - 1, last}
}

func outside() []int {
	return []int{math.MinInt, -last, -1<<32 + 50, -50, -1, 0, last + 1, 2*last + 50, 1<<62 + 50, math.MaxInt}
}

// wrong are bans that are not valid.
func wrong() []api.Ban {
	l := []api.Ban{{}}
	for _, n := range outside() {
		l = append(l, held(net("10.0.0.0/8"), n), held(net("0.0.0.0/0"), n), held(net("2001:db8::/32"), n), held(net("10.1.2.3/8"), n))
	}
	for _, n := range broken() {
		l = append(l, held(n, 1), held(n, 50), held(n, last))
	}
	return l
}

// valid are the bans of the rising subnets; their ticks differ, in no order.
func valid() []api.Ban {
	var l []api.Ban
	for i, n := range rising() {
		l = append(l, held(n, 1+i*17%101))
	}
	return l
}

// eachRow calls a function with each row of up to so many of the things, in each order.
func eachRow[T any](all []T, most int, see func([]T)) {
	var longer func([]T)
	longer = func(l []T) {
		see(l)
		if len(l) == most {
			return
		}
		for _, x := range all {
			longer(append(slices.Clone(l), x))
		}
	}
	longer(nil)
}

// mixed is another list of the same things, in another order.
func mixed[T any](r *rand.Rand, l []T) []T {
	c := slices.Clone(l)
	r.Shuffle(len(c), func(i, j int) { c[i], c[j] = c[j], c[i] })
	return c
}

// lines are so many lines of different bans, each of 16 bytes with its line feed, in no order.
func lines(n int) []string {
	var l []string
	for bits := 16; bits < 100; bits++ {
		for _, c := range "123456789abcdef" {
			for _, d := range "0123456789abcdef" {
				l = append(l, fmt.Sprintf("%c%c::/%d until 1\n", c, d, bits))
			}
		}
	}
	return mixed(rand.New(rand.NewSource(1)), l)[:n]
}

// short is a line of 15 bytes with its line feed, which is none of lines.
const short = "a::/77 until 1\n"

// few are numbers of bans that each line is too many for.
func few() []int { return []int{math.MinInt, -1 << 32, -1025, -1, 0} }

// many are numbers of bans that no text has too many lines for.
func many() []int { return []int{4096, 4097, 65536, 1 << 32, math.MaxInt} }

func TestBf1TextByHand(t *testing.T) {
	for _, c := range []struct{ bans, want string }{
		{"", ""},
		{"10.0.0.0/8=500", "10.0.0.0/8 until 500|"},
		{"9.0.0.0/8=7 10.0.0.0/8=5 ::/0=1", "9.0.0.0/8 until 7|10.0.0.0/8 until 5|::/0 until 1|"},
		{"0.0.0.0/0=1 255.255.255.255/32=1099511627776 2001:db8::/32=1099511627775", "0.0.0.0/0 until 1|255.255.255.255/32 until 1099511627776|2001:db8::/32 until 1099511627775|"},
		// Lists out of order, and with doubles.
		{"::/0=1 10.0.0.0/8=5 9.0.0.0/8=7", "::/0 until 1|10.0.0.0/8 until 5|9.0.0.0/8 until 7|"},
		{"10.0.0.0/8=5 10.0.0.0/8=6 10.0.0.0/8=5", "10.0.0.0/8 until 5|10.0.0.0/8 until 6|10.0.0.0/8 until 5|"},
		// Bans that are not valid.
		{"10.0.0.0/8=0", ""},
		{"10.0.0.0/8=-1", ""},
		{"10.0.0.0/8=1099511627777", ""},
		{"10.1.2.3/8=5", ""},
		{"::ffff:10.0.0.0/104=5", ""},
		{"10.0.0.0/8=0 9.0.0.0/8=7", "9.0.0.0/8 until 7|"},
		{"9.0.0.0/8=7 10.0.0.0/8=0", "9.0.0.0/8 until 7|"},
		{"9.0.0.0/8=7 10.0.0.1/8=5 11.0.0.0/8=3", "9.0.0.0/8 until 7|11.0.0.0/8 until 3|"},
		{"9.0.0.0/8=0 9.0.0.0/8=7 9.0.0.0/8=-5 9.0.0.0/8=8", "9.0.0.0/8 until 7|9.0.0.0/8 until 8|"},
	} {
		checkText(t, list(c.bans), file(c.want))
	}
	checkText(t, []api.Ban{}, "")
	checkText(t, []api.Ban{{}}, "")
	checkText(t, []api.Ban{{}, {}, one("9.0.0.0/8=7")}, "9.0.0.0/8 until 7\n")
}

func TestBf1TextOfEachBan(t *testing.T) {
	for _, n := range rising() {
		for _, until := range inside() {
			b := held(n, until)
			if row(b) == "" {
				t.Fatalf("%v is not valid", b)
			}
			checkText(t, []api.Ban{b}, row(b))
			checkText(t, []api.Ban{b, b}, row(b)+row(b))
		}
		for _, until := range outside() {
			checkText(t, []api.Ban{held(n, until)}, "")
		}
	}
}

func TestBf1TextOfShortLists(t *testing.T) {
	all := list("10.0.0.0/8=3 10.0.0.0/8=6 10.1.0.0/16=5 ::/0=1099511627776 9.0.0.0/8=1 10.1.2.3/8=7 10.1.0.0/16=0 ::/0=1099511627777")
	eachRow(all, 4, func(l []api.Ban) { checkText(t, l, rows(l)) })
}

func TestBf1TextOfLongLists(t *testing.T) {
	checkText(t, valid(), rows(valid()))
	checkText(t, wrong(), "")
	r := rand.New(rand.NewSource(2))
	for range 50 {
		l := mixed(r, slices.Concat(valid(), wrong(), valid()))
		checkText(t, l, rows(l))
	}
}

// A list's text may have more lines and more bytes than Parse reads.
func TestBf1TextBeyondTheLimits(t *testing.T) {
	b := one("255.255.255.255/32=1099511627776")
	for _, n := range []int{1024, 1025, 1872, 1873, 4096, 4097, 20000} {
		l := slices.Repeat([]api.Ban{b, {}}, n)
		checkText(t, l, strings.Repeat("255.255.255.255/32 until 1099511627776\n", n))
	}
}

func TestBf2ParseByHand(t *testing.T) {
	for _, c := range []struct {
		text, bans string
		most       int
	}{
		{"", "", 9},
		{"10.0.0.0/8 until 500|", "10.0.0.0/8=500", 9},
		{"9.0.0.0/8 until 7|10.0.0.0/8 until 5|::/0 until 1|", "9.0.0.0/8=7 10.0.0.0/8=5 ::/0=1", 3},
		{"::/0 until 1|10.0.0.0/8 until 5|9.0.0.0/8 until 7|", "9.0.0.0/8=7 10.0.0.0/8=5 ::/0=1", 4},
		// IPv4 comes first, then the address counts, as a number, and then the bits.
		{"::/0 until 1|255.255.255.255/32 until 2|", "255.255.255.255/32=2 ::/0=1", 2},
		{"100.0.0.0/8 until 1|20.0.0.0/8 until 2|3.0.0.0/8 until 3|", "3.0.0.0/8=3 20.0.0.0/8=2 100.0.0.0/8=1", 3},
		{"10.0.0.0/16 until 1|10.0.0.0/9 until 2|10.0.0.0/8 until 3|", "10.0.0.0/8=3 10.0.0.0/9=2 10.0.0.0/16=1", 3},
		{"10.1.0.0/16 until 1|10.0.0.0/32 until 2|", "10.0.0.0/32=2 10.1.0.0/16=1", 2},
		{"a::/16 until 1|1::/16 until 2|10::/16 until 3|2::/16 until 4|", "1::/16=2 2::/16=4 a::/16=1 10::/16=3", 4},
		{"0.0.0.0/0 until 1099511627776|", "0.0.0.0/0=1099511627776", 1},
		// Subnets that differ in their bits only, or in the kind only.
		{"0.0.0.0/0 until 5|0.0.0.0/1 until 5|::/0 until 5|::/1 until 5|", "0.0.0.0/0=5 0.0.0.0/1=5 ::/0=5 ::/1=5", 4},
	} {
		checkParse(t, file(c.text), c.most, list(c.bans), 0, api.OK)
	}
}

func TestBf2ParseErrorsByHand(t *testing.T) {
	for _, c := range []struct {
		text     string
		most, at int
		fails    api.Errno
	}{
		// The document's example.
		{"10.0.0.0/8 until 5|x|", 9, 2, api.ErrForm},
		// Texts that are not valid have no lines.
		{"x", 9, 0, api.ErrForm},
		{"10.0.0.0/8 until 5", 9, 0, api.ErrForm},
		{"10.0.0.0/8 until 5|9.0.0.0/8 until 5", 9, 0, api.ErrForm},
		{"x|10.0.0.0/8 until 5", 0, 0, api.ErrForm},
		{"10.0.0.0/8 until 5\r|", 9, 0, api.ErrForm},
		{"10.0.0.0/8\tuntil 5|", 9, 0, api.ErrForm},
		{"10.0.0.0/8 until 5|\x00|", 0, 0, api.ErrForm},
		{"x|\x7f|", 9, 0, api.ErrForm},
		{"x|\u00e9|", 9, 0, api.ErrForm},
		// Lines that are not those of bans.
		{"|", 9, 1, api.ErrForm},
		{"x|", 9, 1, api.ErrForm},
		{"||", 9, 1, api.ErrForm},
		{"10.0.0.0/8 until 5||", 9, 2, api.ErrForm},
		{"|10.0.0.0/8 until 5|", 9, 1, api.ErrForm},
		{"10.0.0.0/8 until 0|", 9, 1, api.ErrForm},
		{"10.0.0.0/8 until -1|", 9, 1, api.ErrForm},
		{"10.0.0.0/8 until 05|", 9, 1, api.ErrForm},
		{"10.0.0.0/8 until 1099511627777|", 9, 1, api.ErrForm},
		{"10.0.0.0/8 until 5 |", 9, 1, api.ErrForm},
		{" 10.0.0.0/8 until 5|", 9, 1, api.ErrForm},
		{"10.0.0.0/8  until 5|", 9, 1, api.ErrForm},
		{"10.0.0.0/8 Until 5|", 9, 1, api.ErrForm},
		{"10.0.0.0/8 5|", 9, 1, api.ErrForm},
		{"10.0.0.0/8|", 9, 1, api.ErrForm},
		{"10.0.0.1/8 until 5|", 9, 1, api.ErrForm},
		{"10.0.0.0 until 5|", 9, 1, api.ErrForm},
		{"10.0.0.0/33 until 5|", 9, 1, api.ErrForm},
		{"::ffff:10.0.0.0/104 until 5|", 9, 1, api.ErrForm},
		{"2001:DB8::/32 until 5|", 9, 1, api.ErrForm},
		{"# bans|10.0.0.0/8 until 5|", 9, 1, api.ErrForm},
		// Behind the ban of a subnet whose fields are zero.
		{"0.0.0.0/0 until 5|x|", 9, 2, api.ErrForm},
		{"0.0.0.0/0 until 5||", 1, 2, api.ErrForm},
		{"0.0.0.0/0 until 5|0.0.0.0/0 until 0|", 9, 2, api.ErrForm},
		// Subnets that come twice, with any ticks.
		{"10.0.0.0/8 until 5|10.0.0.0/8 until 6|", 9, 2, api.ErrTwice},
		{"10.0.0.0/8 until 6|10.0.0.0/8 until 5|", 9, 2, api.ErrTwice},
		{"10.0.0.0/8 until 5|10.0.0.0/8 until 5|", 9, 2, api.ErrTwice},
		{"::/0 until 5|9.0.0.0/8 until 5|::/0 until 7|", 9, 3, api.ErrTwice},
		{"0.0.0.0/0 until 5|::/0 until 5|0.0.0.0/0 until 5|", 9, 3, api.ErrTwice},
		// More bans than there may be.
		{"10.0.0.0/8 until 5|", 0, 1, api.ErrFull},
		{"10.0.0.0/8 until 5|", -1, 1, api.ErrFull},
		{"10.0.0.0/8 until 5|11.0.0.0/8 until 6|", 1, 2, api.ErrFull},
		{"10.0.0.0/8 until 5|11.0.0.0/8 until 6|9.0.0.0/8 until 6|", 1, 2, api.ErrFull},
		{"10.0.0.0/8 until 5|11.0.0.0/8 until 6|9.0.0.0/8 until 6|", 2, 3, api.ErrFull},
		// The first wrong line counts, whatever is wrong in it.
		{"x|10.0.0.0/8 until 5|10.0.0.0/8 until 5|", 1, 1, api.ErrForm},
		{"10.0.0.0/8 until 5|10.0.0.0/8 until 5|x|", 1, 2, api.ErrTwice},
		{"10.0.0.0/8 until 5|9.0.0.0/8 until 5|10.0.0.0/8 until 5|x|", 1, 2, api.ErrFull},
		{"10.0.0.0/8 until 5|9.0.0.0/8 until 5|x|9.0.0.0/8 until 5|", 2, 3, api.ErrForm},
		// Of several errors of one line, the one that is named first.
		{"10.0.0.0/8 until 5|x|", 1, 2, api.ErrForm},
		{"x|", 0, 1, api.ErrForm},
		{"|", -1, 1, api.ErrForm},
		{"10.0.0.0/8 until 5|10.0.0.0/8 until 0|", 1, 2, api.ErrForm},
		{"10.0.0.0/8 until 5|10.0.0.1/8 until 5|", 9, 2, api.ErrForm},
		{"10.0.0.0/8 until 5|10.0.0.0/8 until 6|", 1, 2, api.ErrTwice},
		{"10.0.0.0/8 until 5|9.0.0.0/8 until 5|10.0.0.0/8 until 6|", 2, 3, api.ErrTwice},
	} {
		checkNone(t, file(c.text), c.most, c.at, c.fails)
	}
}

// A text without lines has no ban too many.
func TestBf2ParseOfNoLines(t *testing.T) {
	for _, most := range slices.Concat(few(), many()) {
		checkParse(t, "", most, nil, 0, api.OK)
	}
}

func TestBf2ParseOfEachBan(t *testing.T) {
	for _, n := range rising() {
		for _, until := range inside() {
			b := held(n, until)
			for _, most := range append(many(), 1, 2) {
				checkParse(t, row(b), most, []api.Ban{b}, 0, api.OK)
			}
			for _, most := range few() {
				checkNone(t, row(b), most, 1, api.ErrFull)
			}
			checkNone(t, row(b)+row(b), 2, 2, api.ErrTwice)
		}
		for _, until := range outside() {
			s := strings.Replace(row(held(n, 7)), " 7", " "+strconv.Itoa(until), 1)
			checkNone(t, s, 9, 1, api.ErrForm)
		}
	}
}

// Each two subnets, in both orders.
func TestBf2ParseOfPairs(t *testing.T) {
	l := valid()
	for i, a := range l {
		for j, b := range l {
			s := row(a) + row(b)
			switch {
			case i == j:
				checkNone(t, s, 9, 2, api.ErrTwice)
			case i < j:
				checkParse(t, s, 2, []api.Ban{a, b}, 0, api.OK)
				checkNone(t, s, 1, 2, api.ErrFull)
			default:
				checkParse(t, s, 2, []api.Ban{b, a}, 0, api.OK)
				checkNone(t, s, 1, 2, api.ErrFull)
			}
		}
	}
}

// Each text of up to five of some lines, with each number of bans that there may be.
func TestBf2ParseOfShortTexts(t *testing.T) {
	all := []string{"10.0.0.0/8 until 5\n", "10.0.0.0/8 until 6\n", "0.0.0.0/0 until 5\n", "::/0 until 5\n", "10.0.0.1/8 until 5\n", "\n"}
	count := map[api.Errno]int{}
	eachRow(all, 5, func(l []string) {
		s := strings.Join(l, "")
		for most := -1; most <= 6; most++ {
			count[hold(t, s, most)]++
		}
		hold(t, s+"x", 3)
		hold(t, s+"\x1f\n", 3)
	})
	if len(count) != 4 || count[api.OK] == 0 || count[api.ErrForm] == 0 || count[api.ErrTwice] == 0 || count[api.ErrFull] == 0 {
		t.Fatal(count)
	}
}

// Each text that one byte makes of a text of three lines, also with fewer bans than that.
func TestBf2ParseOfVariedTexts(t *testing.T) {
	count := map[api.Errno]int{}
	for _, s := range vary.Texts("10.0.0.0/8 until 15\n::1/128 until 7\n10.0.0.0/9 until 4\n") {
		for _, most := range []int{1, 2, 3} {
			count[hold(t, s, most)]++
		}
	}
	if len(count) != 4 || count[api.OK] == 0 || count[api.ErrForm] == 0 || count[api.ErrTwice] == 0 || count[api.ErrFull] == 0 {
		t.Fatal(count)
	}
}

// A wrong line at each place of a text.
func TestBf2ParseTellsThePlace(t *testing.T) {
	l := lines(60)
	for i := range l {
		for j := range i {
			checkNone(t, strings.Join(l[:i], "")+l[j]+strings.Join(l[i:], ""), 99, i+1, api.ErrTwice)
		}
		checkNone(t, strings.Join(l[:i], "")+"x\n"+strings.Join(l[i:], ""), 99, i+1, api.ErrForm)
		checkNone(t, strings.Join(l[:i], "")+strings.Replace(l[i], "1\n", "0\n", 1)+strings.Join(l[i:], ""), 99, i+1, api.ErrForm)
		checkNone(t, strings.Join(l, ""), i, i+1, api.ErrFull)
		checkNone(t, strings.Join(l[:i], "")+"x\n"+strings.Join(l[i:], ""), i, i+1, api.ErrForm)
		if i > 0 {
			checkNone(t, strings.Join(l[:i], "")+l[0]+strings.Join(l[i:], ""), i, i+1, api.ErrTwice)
		}
		if i > 1 {
			checkNone(t, strings.Join(l[:i], "")+"x\n"+strings.Join(l[i:], ""), i-1, i, api.ErrFull)
		}
	}
	checkNone(t, strings.Join(l, ""), 59, 60, api.ErrFull)
	hold(t, strings.Join(l, ""), 60)
}

func TestBf2ParseAtTheLimits(t *testing.T) {
	l := lines(feeds + 1)
	full := strings.Join(l[:feeds], "")
	if len(full) != bytes {
		t.Fatalf("%d bytes", len(full))
	}
	want, at, fails := parsed(full, feeds)
	if len(want) != feeds || at != 0 || fails != api.OK {
		t.Fatalf("%d bans, %d, %d", len(want), at, fails)
	}
	for _, most := range many() {
		checkParse(t, full, most, want, 0, api.OK)
	}
	checkNone(t, full, feeds-1, feeds, api.ErrFull)
	checkNone(t, full, api.MaxBans, api.MaxBans+1, api.ErrFull)
	checkNone(t, full, 0, 1, api.ErrFull)
	checkNone(t, full[:bytes-1], feeds, 0, api.ErrForm)
}

// A text with too many bytes or lines is too long, whatever else is wrong in it.
func TestBf2ParseBeyondTheLimits(t *testing.T) {
	l := lines(feeds + 1)
	for _, s := range []string{
		// A byte more, a line more, and both.
		strings.Replace(strings.Join(l[:feeds], ""), "until 1", "until 12", 1),
		strings.Repeat(short, feeds+1),
		strings.Join(l, ""),
		strings.Repeat("\n", feeds+1),
		strings.Repeat("x", bytes) + "\n",
		strings.Repeat("x", bytes+1),
		"x\n" + strings.Repeat("\x00", bytes),
		"\x00" + strings.Repeat("\n", feeds+1) + "x",
	} {
		for _, most := range slices.Concat(few(), many()) {
			checkNone(t, s, most, 0, api.ErrLong)
		}
	}
	// As many bytes and lines as there may be.
	checkNone(t, strings.Repeat("\n", feeds), 9, 1, api.ErrForm)
	checkNone(t, strings.Repeat("x", bytes-1)+"\n", 9, 1, api.ErrForm)
	checkNone(t, strings.Repeat("x", bytes), 9, 0, api.ErrForm)
	checkNone(t, strings.Join(l[:feeds-1], "")+"x\n", feeds, feeds, api.ErrForm)
	checkNone(t, strings.Join(l[:feeds-1], "")+l[0], feeds, feeds, api.ErrTwice)
	checkNone(t, strings.Join(l[:feeds-1], "")+l[feeds-2], feeds, feeds, api.ErrTwice)
	checkNone(t, strings.Join(l[:feeds-1], "")+strings.Repeat("x", 16), feeds, 0, api.ErrForm)
}

// What a call returned is its own.
func TestBf2ParseReturnsNewLists(t *testing.T) {
	s := rows(valid())
	for range 3 {
		l, _, _ := banfile.Parse(s, 99)
		if !slices.Equal(l, valid()) {
			t.Fatalf("%v", l)
		}
		clear(l[:cap(l)])
	}
}

func TestBf2ParseByManyGoroutines(t *testing.T) {
	l := mixed(rand.New(rand.NewSource(3)), valid())
	s := rows(l)
	var all sync.WaitGroup
	wrong := make([]int, 8)
	for i := range wrong {
		all.Go(func() {
			for range 50 {
				got, at, e := banfile.Parse(s, 99)
				if !slices.Equal(got, valid()) || at != 0 || e != api.OK || banfile.Text(l) != s {
					wrong[i]++
				}
			}
		})
	}
	all.Wait()
	if slices.Max(wrong) > 0 {
		t.Fatal(wrong)
	}
}

// checkRound asks that a list in order is read from its text, in several orders of its lines.
func checkRound(t *testing.T, r *rand.Rand, l []api.Ban) {
	t.Helper()
	backwards := slices.Clone(l)
	slices.Reverse(backwards)
	for _, x := range [][]api.Ban{l, backwards, mixed(r, l), mixed(r, l)} {
		s := banfile.Text(x)
		for _, most := range append(many(), len(l), len(l)+1) {
			checkParse(t, s, most, l, 0, api.OK)
		}
		if len(l) > 0 {
			checkNone(t, s, len(l)-1, len(l), api.ErrFull)
		}
	}
}

func TestBf3EachOrderIsRead(t *testing.T) {
	l := list("0.0.0.0/0=9 9.0.0.0/8=7 10.0.0.0/8=3 10.0.0.0/9=1099511627776 ::/0=1 2001:db8::/32=5")
	var seen int
	eachRow([]int{0, 1, 2, 3, 4, 5}, len(l), func(row []int) {
		places := slices.Compact(slices.Sorted(slices.Values(row)))
		if len(places) < len(row) {
			return
		}
		seen++
		var lines string
		var want []api.Ban
		for _, i := range row {
			lines += banfile.Text(l[i : i+1])
		}
		for _, i := range places {
			want = append(want, l[i])
		}
		checkParse(t, lines, len(row), want, 0, api.OK)
	})
	// The rows of different ones of six: 1 of none, 6, 30, 120, 360, 720 and 720 of more.
	if seen != 1957 {
		t.Fatal(seen)
	}
}

func TestBf3ListsAreReadUnchanged(t *testing.T) {
	r := rand.New(rand.NewSource(4))
	checkRound(t, r, nil)
	checkRound(t, r, valid())
	for range 200 {
		// Some of the valid bans.
		l := slices.DeleteFunc(valid(), func(api.Ban) bool { return r.Intn(3) == 0 })
		for i := range l {
			l[i].Until = inside()[r.Intn(len(inside()))]
		}
		checkRound(t, r, l)
	}
}

// Random subnets of both kinds.
func TestBf3RandomListsAreReadUnchanged(t *testing.T) {
	r := rand.New(rand.NewSource(5))
	for size := range 120 {
		all := map[netip.Prefix]int{}
		for len(all) < size {
			var b [16]byte
			binary.BigEndian.PutUint64(b[:8], r.Uint64()>>r.Intn(64))
			binary.BigEndian.PutUint64(b[8:], r.Uint64()<<r.Intn(64))
			a := netip.AddrFrom16(b)
			if r.Intn(2) == 0 {
				a = netip.AddrFrom4([4]byte(b[8:]))
			}
			all[netip.PrefixFrom(a, r.Intn(a.BitLen()+1)).Masked()] = 1 + r.Intn(last)
		}
		var l []api.Ban
		for p, until := range all {
			if !p.Addr().Is4In6() {
				l = append(l, held(api.Net{Addr: fields(p.Addr()), Bits: p.Bits()}, until))
			}
		}
		slices.SortFunc(l, order)
		checkRound(t, r, l)
	}
}

// series are bans of so many addresses, in order.
func series(n int) []api.Ban {
	l := make([]api.Ban, n)
	for i := range l {
		l[i] = held(api.Net{Addr: api.Addr{Lo: 0x64646464 + uint64(i)}, Bits: 32}, last-i)
	}
	return l
}

func TestBf3LongListsAreReadUnchanged(t *testing.T) {
	r := rand.New(rand.NewSource(6))
	checkRound(t, r, series(api.MaxBans-1))
	checkRound(t, r, series(api.MaxBans))
	checkRound(t, r, series(api.MaxBans+1))
	// The longest list whose text can be read, and one that is longer.
	n, size := 0, 0
	l := series(feeds)
	for size+len(row(l[n])) <= bytes {
		size += len(row(l[n]))
		n++
	}
	checkRound(t, r, l[:n])
	checkNone(t, banfile.Text(l[:n+1]), n+1, 0, api.ErrLong)
	checkNone(t, banfile.Text(l[:n+1]), 0, 0, api.ErrLong)
}
