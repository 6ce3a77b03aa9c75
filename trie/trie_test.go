package trie_test

import (
	"fmt"
	"maps"
	"math"
	"math/rand"
	"net/netip"
	"reflect"
	"slices"
	"strings"
	"sync"
	"testing"

	"doorman/addr"
	"doorman/api"
	"doorman/cidr"
	"doorman/trie"
)

// model says what a trie has to contain.
type model map[api.Net]int

func (m model) all() []trie.Hit {
	var l []trie.Hit
	for n, v := range m {
		l = append(l, trie.Hit{Net: n, V: v})
	}
	slices.SortFunc(l, func(a, b trie.Hit) int { return cidr.Compare(a.Net, b.Net) })
	return l
}

// cover are the subnets that contain an address: there is one of each size at most, and in order those with fewer bits come first.
func (m model) cover(a api.Addr) []trie.Hit {
	return slices.DeleteFunc(m.all(), func(h trie.Hit) bool { return !cidr.Has(h.Net, a) })
}

// net is the subnet with exactly this text.
func net(s string) api.Net {
	n, ok := cidr.Parse(s)
	if !ok || cidr.Text(n) != s {
		panic("no subnet: " + s)
	}
	return n
}

func address(s string) api.Addr {
	a, ok := addr.Parse(s)
	if !ok {
		panic("no address: " + s)
	}
	return a
}

// first is the subnet of the first bits of an address.
func first(a api.Addr, bits int) api.Net {
	n, ok := cidr.Make(a, bits)
	if !ok {
		panic(fmt.Sprint("no subnet: ", a, bits))
	}
	return n
}

// nets are the subnets with these texts.
func nets(texts string) []api.Net {
	var l []api.Net
	for _, s := range strings.Fields(texts) {
		l = append(l, net(s))
	}
	return l
}

// numbered gives each subnet its index as its number.
func numbered(l []api.Net) model {
	m := model{}
	for i, n := range l {
		m[n] = i
	}
	return m
}

// made is a trie into which the subnets came in this order.
func made(l []api.Net, m model) *trie.Trie {
	x := trie.New()
	for _, n := range l {
		x = x.With(n, m[n])
	}
	return x
}

// plain is the trie with these subnets, which came in order.
func plain(m model) *trie.Trie {
	x := trie.New()
	for _, h := range m.all() {
		x = x.With(h.Net, h.V)
	}
	return x
}

func texts(l []trie.Hit) string {
	s := ""
	for _, h := range l {
		s += fmt.Sprintf("%s=%d ", cidr.Text(h.Net), h.V)
	}
	return strings.TrimSpace(s)
}

func checkHits(t *testing.T, what string, got, want []trie.Hit) {
	t.Helper()
	if !slices.Equal(got, want) {
		t.Fatalf("%s is %q, not %q", what, texts(got), texts(want))
	}
}

func checkCover(t *testing.T, x *trie.Trie, m model, a api.Addr) {
	t.Helper()
	checkHits(t, fmt.Sprintf("Cover(%+v)", a), x.Cover(a), m.cover(a))
}

func checkGet(t *testing.T, x *trie.Trie, m model, n api.Net) {
	t.Helper()
	want, there := m[n]
	if got, ok := x.Get(n); got != want || ok != there {
		t.Fatalf("Get(%+v) is %d, %t, not %d, %t", n, got, ok, want, there)
	}
}

// check holds all that a trie tells of its own subnets against the model.
func check(t *testing.T, x *trie.Trie, m model) {
	t.Helper()
	all := m.all()
	checkHits(t, "All", x.All(), all)
	if x.Len() != len(all) {
		t.Fatalf("Len is %d, not %d", x.Len(), len(all))
	}
	for _, h := range all {
		checkGet(t, x, m, h.Net)
		checkCover(t, x, m, h.Net.Addr)
	}
}

// checkForm asks that a trie is, to its last part, the one into which the same subnets came in order.
func checkForm(t *testing.T, x *trie.Trie, m model) {
	t.Helper()
	if !reflect.DeepEqual(x, plain(m)) {
		t.Fatalf("a trie with %q has another form", texts(m.all()))
	}
}

// ordinary are subnets of both kinds, inside and beside each other.
func ordinary() []api.Net {
	return nets("10.0.0.0/8 10.1.0.0/16 0.0.0.0/0 10.1.2.3/32 11.0.0.0/8 ::/0 2001:db8::/32 10.128.0.0/9 10.1.2.0/24 10.1.2.2/31 192.168.0.0/16 255.255.255.255/32 0.0.0.0/32 2001:db8::1/128 2001:db8:0:1::/64 2001:db9::/32 ::/128 ::1/128 ::a01:203/128 ::/96 ::fffe:0:0/95 ffff::/16 ffff:ffff:ffff:ffff:ffff:ffff:ffff:ffff/128 8000::/1 128.0.0.0/1")
}

// wrong are addresses that are not valid: with bits that IPv4 has not, and of IPv6 although they represent one of IPv4.
func wrong() []api.Addr {
	return []api.Addr{
		{Lo: 1 << 32}, {Lo: 1<<32 | 0x0a010203}, {Lo: math.MaxUint64}, {Hi: 1}, {Hi: 1, Lo: 0x0a010203}, {Hi: 0x20010db800000000, Lo: 1},
		{V6: true, Lo: 0xffff00000000}, {V6: true, Lo: 0xffff0a010203}, {V6: true, Lo: 0xffffffffffff},
	}
}

// broken are subnets that are not valid: of wrong addresses, with wrong numbers of bits, and with bits behind the first ones.
func broken() []api.Net {
	l := []api.Net{
		{Addr: address("10.1.2.3"), Bits: 8}, {Addr: address("10.1.2.3"), Bits: 31}, {Addr: address("10.0.0.1"), Bits: 8}, {Addr: address("128.0.0.0"), Bits: 0}, {Addr: address("11.0.0.0"), Bits: 7},
		{Addr: address("2001:db8::1"), Bits: 32}, {Addr: address("2001:db8::1"), Bits: 127}, {Addr: address("8000::"), Bits: 0}, {Addr: address("::1"), Bits: 64},
	}
	for _, n := range ordinary() {
		for _, bits := range []int{math.MinInt, -128, -32, -1, addr.Bits(n.Addr) + 1, 129, 256, math.MaxInt} {
			l = append(l, api.Net{Addr: n.Addr, Bits: bits})
		}
	}
	for _, a := range wrong() {
		for _, bits := range []int{math.MinInt, -1, 0, 1, 8, 31, 32, 33, 96, 127, 128, 129, math.MaxInt} {
			l = append(l, api.Net{Addr: a, Bits: bits})
		}
	}
	return l
}

// path are all subnets that an address is in, from that of no bits on.
func path(a api.Addr) []api.Net {
	var l []api.Net
	for bits := range addr.Bits(a) + 1 {
		l = append(l, first(a, bits))
	}
	return l
}

// flipped is an address with another value of bit i.
func flipped(a api.Addr, i int) api.Addr {
	below := addr.Bits(a) - 1 - i
	if below >= 64 {
		a.Hi ^= 1 << (below - 64)
	} else {
		a.Lo ^= 1 << below
	}
	return a
}

// under are a subnet and all valid ones inside it that have up to some bits more.
func under(n api.Net, more int) []api.Net {
	l := []api.Net{n}
	if more == 0 {
		return l
	}
	for _, a := range []api.Addr{n.Addr, flipped(n.Addr, n.Bits)} {
		if addr.Right(a) {
			l = append(l, under(first(a, n.Bits+1), more-1)...)
		}
	}
	return l
}

// roots are subnets at both ends of the bits, in their midst, and where the two numbers of an IPv6 address meet; each has two bits more, at least.
func roots() []api.Net {
	return nets("0.0.0.0/0 10.0.0.0/7 192.168.1.252/30 255.255.255.252/30 ::/0 2001:db8::/31 2001:db8:0:4::/62 2001:db8:0:2::/63 2001:db8:0:1::/64 ::fffe:0:0/95 ::fffe:0:0/96 ffff:ffff:ffff:ffff:ffff:ffff:ffff:fffc/126")
}

// some are the subnets whose bit is set in a number.
func some(l []api.Net, set int) []api.Net {
	var out []api.Net
	for i, n := range l {
		if set>>i&1 == 1 {
			out = append(out, n)
		}
	}
	return out
}

// orders calls see for each order of a list.
func orders(l []api.Net, see func([]api.Net)) {
	if len(l) < 2 {
		see(l)
		return
	}
	for i := range l {
		rest := slices.Delete(slices.Clone(l), i, i+1)
		orders(rest, func(r []api.Net) { see(append([]api.Net{l[i]}, r...)) })
	}
}

// empties are tries without subnets, by their names.
func empties() map[string]*trie.Trie {
	gone := made(ordinary(), numbered(ordinary()))
	for _, n := range ordinary() {
		gone = gone.Without(n)
	}
	return map[string]*trie.Trie{"new": trie.New(), "nil": nil, "zero": {}, "emptied": gone, "never filled": trie.New().With(broken()[0], 5)}
}

func TestTr1EmptyTries(t *testing.T) {
	if trie.New() == nil {
		t.Error("New is nil")
	}
	for name, x := range empties() {
		t.Run(name, func(t *testing.T) {
			check(t, x, model{})
			if x.All() != nil || x.Cover(address("10.1.2.3")) != nil || x.Cover(address("::1")) != nil {
				t.Error("a list has something")
			}
			for _, n := range slices.Concat(ordinary(), broken()) {
				checkGet(t, x, model{}, n)
				check(t, x.Without(n), model{})
			}
			for _, n := range broken() {
				check(t, x.With(n, 3), model{})
			}
			for _, n := range ordinary() {
				check(t, x.With(n, 3), model{n: 3})
				check(t, x.With(n, 3).Without(n), model{})
			}
			for _, a := range wrong() {
				checkCover(t, x, model{}, a)
			}
		})
	}
}

// New tries have nothing in common.
func TestTr1NewIsNew(t *testing.T) {
	x, y := trie.New(), trie.New()
	*x = *x.With(net("10.0.0.0/8"), 1)
	check(t, y, model{})
	check(t, trie.New(), model{})
}

func TestTr1WithByHand(t *testing.T) {
	x := trie.New()
	for i, want := range []string{
		"10.0.0.0/8=0",
		"10.0.0.0/8=0 10.1.0.0/16=1",
		"0.0.0.0/0=2 10.0.0.0/8=0 10.1.0.0/16=1",
		"0.0.0.0/0=2 10.0.0.0/8=0 10.1.0.0/16=1 10.1.2.3/32=3",
		"0.0.0.0/0=2 10.0.0.0/8=0 10.1.0.0/16=1 10.1.2.3/32=3 11.0.0.0/8=4",
		"0.0.0.0/0=2 10.0.0.0/8=0 10.1.0.0/16=1 10.1.2.3/32=3 11.0.0.0/8=4 ::/0=5",
		"0.0.0.0/0=2 10.0.0.0/8=0 10.1.0.0/16=1 10.1.2.3/32=3 11.0.0.0/8=4 ::/0=5 2001:db8::/32=6",
		"0.0.0.0/0=2 10.0.0.0/8=0 10.1.0.0/16=1 10.1.2.3/32=3 10.128.0.0/9=7 11.0.0.0/8=4 ::/0=5 2001:db8::/32=6",
	} {
		x = x.With(ordinary()[i], i)
		if got := texts(x.All()); got != want || x.Len() != i+1 {
			t.Fatalf("All is %q, not %q; Len is %d", got, want, x.Len())
		}
	}
}

func TestTr1WithEach(t *testing.T) {
	m := model{}
	x := trie.New()
	for i, n := range ordinary() {
		x = x.With(n, i)
		m[n] = i
		check(t, x, m)
	}
}

func TestTr1WithReplacesTheNumber(t *testing.T) {
	m := numbered(ordinary())
	x := plain(m)
	for i, n := range ordinary() {
		for _, v := range []int{i, i + 100, 0, -1, math.MinInt, math.MaxInt, 1 << 40} {
			x = x.With(n, v)
			m[n] = v
			check(t, x, m)
		}
	}
	for _, n := range ordinary() {
		x = x.Without(n).With(n, 7)
		m[n] = 7
	}
	check(t, x, m)
}

func TestTr1NotValidSubnets(t *testing.T) {
	m := numbered(ordinary())
	x := plain(m)
	for _, n := range broken() {
		if cidr.Right(n) {
			t.Fatalf("%+v is valid", n)
		}
		checkGet(t, x, m, n)
		check(t, x.With(n, 77), m)
		checkGet(t, x.With(n, 77), m, n)
		check(t, x.Without(n), m)
		checkForm(t, x.With(n, 77).Without(n).With(n, 0), m)
	}
}

func TestTr1WithoutEach(t *testing.T) {
	all := numbered(ordinary())
	x := plain(all)
	for _, n := range ordinary() {
		m := maps.Clone(all)
		delete(m, n)
		y := x.Without(n)
		check(t, y, m)
		checkGet(t, y, m, n)
		check(t, y.Without(n), m)
		check(t, y.With(n, 99).Without(n), m)
		check(t, y.With(n, all[n]), all)
	}
}

// A subnet that is not there may well lie between those that are: it is one of those that hold others together.
func TestTr1WithoutWhatIsNotThere(t *testing.T) {
	for _, r := range roots() {
		l := under(r, 2)
		for set := range 1 << len(l) {
			m := numbered(some(l, set))
			x := plain(m)
			for _, n := range l {
				if _, there := m[n]; !there {
					checkGet(t, x, m, n)
					check(t, x.Without(n), m)
					checkForm(t, x.Without(n), m)
				}
			}
		}
	}
}

// What was returned once never changes, whatever is made of it.
func TestTr1StaysAsItIs(t *testing.T) {
	var tries []*trie.Trie
	var models []model
	m := model{}
	x := trie.New()
	keep := func() {
		tries = append(tries, x)
		models = append(models, maps.Clone(m))
	}
	for i, n := range ordinary() {
		x = x.With(n, i)
		m[n] = i
		keep()
	}
	for i, n := range ordinary() {
		x = x.With(n, -i)
		m[n] = -i
		keep()
	}
	for _, n := range ordinary() {
		x = x.Without(n)
		delete(m, n)
		keep()
	}
	for i, x := range tries {
		for v, n := range slices.Concat(ordinary(), broken()) {
			x.With(n, 1000+v)
			x.Without(n)
		}
		check(t, x, models[i])
		checkForm(t, x, models[i])
	}
}

// Each operation returns another trie, even if it has the same subnets: who stores something else in the one does not change the other.
func TestTr1ReturnsAnotherTrie(t *testing.T) {
	there, away := net("10.0.0.0/8"), net("10.0.0.0/9")
	m := model{there: 5, net("::/0"): 6}
	x := plain(m)
	for i, y := range []*trie.Trie{x.With(there, 5), x.With(away, 5), x.With(broken()[0], 5), x.Without(there), x.Without(away), x.Without(broken()[0])} {
		if y == x || y == nil {
			t.Errorf("result %d is the trie itself, or none", i)
			continue
		}
		*y = trie.Trie{}
		check(t, x, m)
	}
	var none *trie.Trie
	if none.With(broken()[0], 5) == nil || none.Without(there) == nil {
		t.Error("no trie is made of nil")
	}
}

func TestTr2GetOfExactlyThisSubnet(t *testing.T) {
	for _, r := range slices.Concat(ordinary(), roots()) {
		x := trie.New().With(r, 8)
		m := model{r: 8}
		checkGet(t, x, m, r)
		for bits := range addr.Bits(r.Addr) + 1 {
			checkGet(t, x, m, first(r.Addr, bits))
			checkGet(t, x, m, api.Net{Addr: r.Addr, Bits: bits})
		}
		for i := range addr.Bits(r.Addr) {
			a := flipped(r.Addr, i)
			checkGet(t, x, m, api.Net{Addr: a, Bits: r.Bits})
			for bits := range addr.Bits(r.Addr) + 1 {
				checkGet(t, x, m, api.Net{Addr: a, Bits: bits})
			}
		}
		other := r
		other.Addr.V6 = !other.Addr.V6
		checkGet(t, x, m, other)
	}
}

// The two kinds may have the same bits.
func TestTr2KindsAreApart(t *testing.T) {
	for _, c := range [][2]string{{"0.0.0.0/0", "::/0"}, {"0.0.0.0/32", "::/32"}, {"0.0.0.0/1", "::/1"}, {"128.0.0.0/1", "8000::/1"}, {"10.1.2.3/32", "::a01:203/128"}} {
		four, six := net(c[0]), net(c[1])
		m := model{four: 4}
		check(t, plain(m), m)
		checkGet(t, plain(m), m, six)
		checkCover(t, plain(m), m, six.Addr)
		checkForm(t, plain(m).Without(six), m)
		m = model{six: 6}
		check(t, plain(m), m)
		checkGet(t, plain(m), m, four)
		checkCover(t, plain(m), m, four.Addr)
		checkForm(t, plain(m).Without(four), m)
		m = model{six: 6, four: 4}
		check(t, plain(m), m)
		checkHits(t, "All", plain(m).All(), []trie.Hit{{Net: four, V: 4}, {Net: six, V: 6}})
	}
}

func TestTr2NumbersOfAllSizes(t *testing.T) {
	n := net("10.0.0.0/8")
	for _, v := range []int{0, 1, -1, 7, 65535, 1 << 31, 1 << 32, 1 << 40, math.MaxInt, math.MinInt} {
		x := trie.New().With(n, v)
		check(t, x, model{n: v})
		if got, ok := x.Get(n); got != v || !ok {
			t.Errorf("Get is %d, %t, not %d", got, ok, v)
		}
		checkHits(t, "Cover", x.Cover(address("10.1.2.3")), []trie.Hit{{Net: n, V: v}})
	}
}

func TestTr2CoverByHand(t *testing.T) {
	x := made(ordinary(), numbered(ordinary()))
	for _, c := range [][2]string{
		{"10.1.2.3", "0.0.0.0/0=2 10.0.0.0/8=0 10.1.0.0/16=1 10.1.2.0/24=8 10.1.2.2/31=9 10.1.2.3/32=3"},
		{"10.1.2.2", "0.0.0.0/0=2 10.0.0.0/8=0 10.1.0.0/16=1 10.1.2.0/24=8 10.1.2.2/31=9"},
		{"10.1.2.4", "0.0.0.0/0=2 10.0.0.0/8=0 10.1.0.0/16=1 10.1.2.0/24=8"},
		{"10.1.3.3", "0.0.0.0/0=2 10.0.0.0/8=0 10.1.0.0/16=1"},
		{"10.2.2.3", "0.0.0.0/0=2 10.0.0.0/8=0"},
		{"10.128.0.0", "0.0.0.0/0=2 10.0.0.0/8=0 10.128.0.0/9=7"},
		{"10.255.255.255", "0.0.0.0/0=2 10.0.0.0/8=0 10.128.0.0/9=7"},
		{"11.1.2.3", "0.0.0.0/0=2 11.0.0.0/8=4"},
		{"9.255.255.255", "0.0.0.0/0=2"},
		{"0.0.0.0", "0.0.0.0/0=2 0.0.0.0/32=12"},
		{"0.0.0.1", "0.0.0.0/0=2"},
		{"255.255.255.255", "0.0.0.0/0=2 128.0.0.0/1=24 255.255.255.255/32=11"},
		{"::", "::/0=5 ::/96=19 ::/128=16"},
		{"::1", "::/0=5 ::/96=19 ::1/128=17"},
		{"::10.1.2.3", "::/0=5 ::/96=19 ::a01:203/128=18"},
		{"::ffff:10.2.0.0", "0.0.0.0/0=2 10.0.0.0/8=0"},
		{"::fffe:a01:203", "::/0=5 ::fffe:0:0/95=20"},
		{"2001:db8::1", "::/0=5 2001:db8::/32=6 2001:db8::1/128=13"},
		{"2001:db8:0:1::1", "::/0=5 2001:db8::/32=6 2001:db8:0:1::/64=14"},
		{"2001:db9::1", "::/0=5 2001:db9::/32=15"},
		{"ffff:ffff:ffff:ffff:ffff:ffff:ffff:ffff", "::/0=5 8000::/1=23 ffff::/16=21 ffff:ffff:ffff:ffff:ffff:ffff:ffff:ffff/128=22"},
	} {
		if got := texts(x.Cover(address(c[0]))); got != c[1] {
			t.Errorf("Cover(%s) is %q, not %q", c[0], got, c[1])
		}
	}
	y := trie.New().With(net("10.1.0.0/16"), 2).With(net("10.0.0.0/8"), 1)
	checkHits(t, "Cover", y.Cover(address("10.1.2.3")), []trie.Hit{{Net: net("10.0.0.0/8"), V: 1}, {Net: net("10.1.0.0/16"), V: 2}})
}

// Of all subnets that an address is in, another one is in those that end before the first bit in which it differs.
func TestTr2CoverOfEachBit(t *testing.T) {
	random := rand.New(rand.NewSource(11))
	for _, n := range ordinary() {
		l := path(n.Addr)
		m := numbered(l)
		rising := made(l, m)
		mixed := slices.Clone(l)
		random.Shuffle(len(mixed), func(i, j int) { mixed[i], mixed[j] = mixed[j], mixed[i] })
		slices.Reverse(l)
		for _, x := range []*trie.Trie{rising, made(l, m), made(mixed, m)} {
			check(t, x, m)
			checkForm(t, x, m)
			checkHits(t, "Cover", x.Cover(n.Addr), m.all())
			for i := range addr.Bits(n.Addr) {
				if a := flipped(n.Addr, i); addr.Right(a) {
					checkHits(t, fmt.Sprintf("Cover(%+v)", a), x.Cover(a), m.all()[:i+1])
				}
			}
		}
	}
}

func TestTr2CoverOfOneSubnet(t *testing.T) {
	for _, r := range ordinary() {
		for _, n := range path(r.Addr) {
			x := trie.New().With(n, 3)
			m := model{n: 3}
			checkHits(t, "Cover", x.Cover(r.Addr), m.all())
			for i := range addr.Bits(r.Addr) {
				checkCover(t, x, m, flipped(r.Addr, i))
			}
		}
	}
}

func TestTr2CoverOfWrongAddresses(t *testing.T) {
	x := made(ordinary(), numbered(ordinary()))
	for _, a := range wrong() {
		if l := x.Cover(a); l != nil {
			t.Errorf("Cover(%+v) is %q", a, texts(l))
		}
	}
	// The same bits as an address of IPv4 are covered as that.
	checkHits(t, "Cover", x.Cover(addr.V6(0, 0xffff0a010203)), x.Cover(address("10.1.2.3")))
}

// The library's subnets say the same.
func TestTr2CoverAsTheLibrarySays(t *testing.T) {
	l := slices.Concat(ordinary(), under(net("8.0.0.0/6"), 3), under(net("2001:db8::/62"), 3))
	x := made(l, numbered(l))
	for _, n := range l {
		for i := range addr.Bits(n.Addr) {
			a := flipped(n.Addr, i)
			if !addr.Right(a) {
				continue
			}
			var want []string
			for _, h := range x.All() {
				if netip.MustParsePrefix(cidr.Text(h.Net)).Contains(netip.MustParseAddr(addr.Text(a))) {
					want = append(want, cidr.Text(h.Net))
				}
			}
			var got []string
			for _, h := range x.Cover(a) {
				got = append(got, cidr.Text(h.Net))
			}
			if !slices.Equal(got, want) {
				t.Fatalf("Cover(%s) is %q, not %q", addr.Text(a), got, want)
			}
		}
	}
}

func TestTr2AllInOrder(t *testing.T) {
	l := slices.Concat(ordinary(), under(net("8.0.0.0/6"), 4), under(net("2001:db8::/62"), 4), under(net("::/0"), 3))
	x := made(l, numbered(l))
	all := x.All()
	for i := range all[1:] {
		if cidr.Compare(all[i].Net, all[i+1].Net) >= 0 {
			t.Errorf("%s does not come before %s", cidr.Text(all[i].Net), cidr.Text(all[i+1].Net))
		}
	}
	check(t, x, numbered(l))
	want := "0.0.0.0/0 0.0.0.0/32 10.0.0.0/8 10.1.0.0/16 10.1.2.0/24 10.1.2.2/31 10.1.2.3/32 10.128.0.0/9 11.0.0.0/8 128.0.0.0/1 192.168.0.0/16 255.255.255.255/32 ::/0 ::/96 ::/128 ::1/128 ::a01:203/128 ::fffe:0:0/95 2001:db8::/32 2001:db8::1/128 2001:db8:0:1::/64 2001:db9::/32 8000::/1 ffff::/16 ffff:ffff:ffff:ffff:ffff:ffff:ffff:ffff/128"
	got := ""
	for _, h := range made(ordinary(), model{}).All() {
		got += " " + cidr.Text(h.Net)
	}
	if got[1:] != want {
		t.Errorf("All is %q, not %q", got[1:], want)
	}
}

// A list that was returned belongs to who asked for it.
func TestTr2ListsAreNew(t *testing.T) {
	m := numbered(ordinary())
	x := plain(m)
	for range 2 {
		for _, l := range [][]trie.Hit{x.All(), x.Cover(address("10.1.2.3")), x.Cover(address("::1"))} {
			for i := range l {
				l[i] = trie.Hit{Net: net("1.2.3.4/32"), V: -5}
			}
			_ = append(l, trie.Hit{})
			check(t, x, m)
		}
	}
}

func TestTr3EachSetOfSubnets(t *testing.T) {
	for _, r := range []string{"0.0.0.0/0", "2001:db8:0:2::/63"} {
		l := under(net(r), 3)
		for set := range 1 << len(l) {
			m := numbered(some(l, set))
			x := made(some(l, set), m)
			checkHits(t, "All", x.All(), m.all())
			if x.Len() != len(m) {
				t.Fatalf("Len is %d, not %d", x.Len(), len(m))
			}
			for _, n := range l {
				checkGet(t, x, m, n)
			}
		}
	}
}

func TestTr3EachOrder(t *testing.T) {
	for _, r := range roots() {
		l := under(r, 2)
		m := numbered(l)
		want := plain(m)
		bare := plain(numbered(l[:1]))
		orders(l, func(o []api.Net) {
			x := made(o, m)
			if !reflect.DeepEqual(x, want) {
				t.Fatalf("after %+v a trie has another form", o)
			}
			for _, n := range o {
				if n != l[0] {
					x = x.Without(n)
				}
			}
			if !reflect.DeepEqual(x, bare) {
				t.Fatalf("after %+v were removed, a trie has another form", o)
			}
		})
	}
}

// Whatever is removed from whatever set, what stays is as if nothing else had ever been there.
func TestTr3EachRemoval(t *testing.T) {
	for _, r := range roots() {
		l := under(r, 2)
		for set := range 1 << len(l) {
			all := numbered(some(l, set))
			x := plain(all)
			for gone := range set + 1 {
				if gone&^set != 0 {
					continue
				}
				m := maps.Clone(all)
				y := x
				for _, n := range some(l, gone) {
					y = y.Without(n)
					delete(m, n)
				}
				check(t, y, m)
				checkForm(t, y, m)
			}
		}
	}
}

// near are subnets of which many lie inside each other or part at a late bit.
func near(random *rand.Rand) api.Net {
	a := ordinary()[random.Intn(len(ordinary()))].Addr
	size := addr.Bits(a)
	for range random.Intn(3) {
		if b := flipped(a, random.Intn(size)); addr.Right(b) {
			a = b
		}
	}
	return first(a, size-random.Intn(size+1))
}

func TestTr3ManyOperations(t *testing.T) {
	for seed := range int64(8) {
		random := rand.New(rand.NewSource(seed))
		m := model{}
		x := trie.New()
		var tries []*trie.Trie
		var models []model
		for i := range 1500 {
			n := near(random)
			if all := x.All(); len(all) > 0 && random.Intn(3) == 0 {
				n = all[random.Intn(len(all))].Net
			}
			switch random.Intn(8) {
			case 0, 1, 2, 3:
				x = x.With(n, i)
				m[n] = i
			case 4:
				bad := broken()[random.Intn(len(broken()))]
				x = x.With(bad, i).Without(bad)
			default:
				x = x.Without(n)
				delete(m, n)
			}
			checkGet(t, x, m, n)
			checkCover(t, x, m, n.Addr)
			if i%100 == 0 {
				tries = append(tries, x)
				models = append(models, maps.Clone(m))
			}
		}
		for i, x := range append(tries, x) {
			want := append(models, m)[i]
			check(t, x, want)
			checkForm(t, x, want)
		}
	}
}

// A list of bans has up to MaxBans subnets; a trie may have more.
func TestTr3ManySubnets(t *testing.T) {
	for _, most := range []int{api.MaxBans, 30000} {
		x := trie.New()
		for i := range most {
			x = x.With(cidr.Full(addr.V4(uint32(i)*2654435761)), i)
			x = x.With(cidr.Full(addr.V6(uint64(i)<<40, uint64(i))), -i)
		}
		if x.Len() != 2*most || len(x.All()) != 2*most {
			t.Fatalf("Len is %d, not %d", x.Len(), 2*most)
		}
		for i := range most {
			checkHits(t, "Cover", x.Cover(addr.V4(uint32(i)*2654435761)), []trie.Hit{{Net: cidr.Full(addr.V4(uint32(i) * 2654435761)), V: i}})
			x = x.Without(cidr.Full(addr.V4(uint32(i) * 2654435761)))
		}
		if x.Len() != most || len(x.All()) != most {
			t.Fatalf("Len is %d, not %d", x.Len(), most)
		}
		for i := range most {
			x = x.Without(cidr.Full(addr.V6(uint64(i)<<40, uint64(i))))
		}
		checkForm(t, x, model{})
	}
}

// One trie may be asked, and others be made of it, by many goroutines at once.
func TestTr3ManyGoroutines(t *testing.T) {
	m := numbered(ordinary())
	x := plain(m)
	var all sync.WaitGroup
	for w := range 8 {
		all.Go(func() {
			y := x
			for _, n := range ordinary() {
				y = y.With(n, 100*w)
				if v, ok := y.Get(n); v != 100*w || !ok {
					t.Errorf("Get(%s) is %d, %t, not %d", cidr.Text(n), v, ok, 100*w)
				}
				y = y.Without(n)
			}
			if y.Len() != 0 || !slices.Equal(x.All(), m.all()) {
				t.Errorf("%d are left of %q", y.Len(), texts(x.All()))
			}
		})
	}
	all.Wait()
	check(t, x, m)
}
