package spread_test

import (
	"cmp"
	"encoding/binary"
	"math"
	"math/rand"
	"net/netip"
	"slices"
	"strings"
	"sync"
	"testing"

	"doorman/api"
	"doorman/spread"
)

const (
	idle     = 1
	flying   = 2
	up       = 3
	topPeers = 65535
	topBook  = 1024
	top      = math.MaxUint64
	six2001  = 0x20010db8 << 32
)

func four(n uint64) api.Addr { return api.Addr{Lo: n} }

func six(hi, lo uint64) api.Addr { return api.Addr{V6: true, Hi: hi, Lo: lo} }

func end(a api.Addr) api.End { return api.End{Addr: a, Port: 80} }

func in(a api.Addr) api.Peer { return api.Peer{End: end(a), In: true} }

func out(a api.Addr) api.Peer { return api.Peer{End: end(a)} }

func known(a api.Addr, state int) api.Entry { return api.Entry{End: end(a), State: state} }

// address is that of a text; one of IPv6 that stands for one of IPv4 stays there, where it is not valid.
func address(s string) api.Addr {
	a := netip.MustParseAddr(s)
	whole := a.As16()
	hi, lo := binary.BigEndian.Uint64(whole[:8]), binary.BigEndian.Uint64(whole[8:])
	if a.Is4() {
		return four(lo & math.MaxUint32)
	}
	return six(hi, lo)
}

// subnets are those of a text.
func subnets(s string) []api.Net {
	var l []api.Net
	for _, x := range strings.Fields(s) {
		p := netip.MustParsePrefix(x)
		l = append(l, api.Net{Addr: address(p.Addr().String()), Bits: p.Bits()})
	}
	return l
}

// scene is peers and a book.
type scene struct {
	peers []api.Peer
	book  []api.Entry
}

// read is the scene of a text as "in=1.2.3.4 out=5.6.7.8 idle=1.1.1.1 fly=2.2.2.2 up=::1".
func read(s string) scene {
	var w scene
	for _, x := range strings.Fields(s) {
		name, text, _ := strings.Cut(x, "=")
		a := address(text)
		switch name {
		case "in":
			w.peers = append(w.peers, in(a))
		case "out":
			w.peers = append(w.peers, out(a))
		case "idle":
			w.book = append(w.book, known(a, idle))
		case "fly":
			w.book = append(w.book, known(a, flying))
		case "up":
			w.book = append(w.book, known(a, up))
		default:
			panic(s)
		}
	}
	return w
}

// takers are the addresses of those who take a group.
func (w scene) takers() []api.Addr {
	var l []api.Addr
	for _, e := range w.book {
		if e.State == flying {
			l = append(l, e.End.Addr)
		}
	}
	for _, p := range w.peers {
		if p.In {
			continue
		}
		l = append(l, p.End.Addr)
	}
	return l
}

func valid(a api.Addr) bool {
	if a.V6 {
		return a.Hi != 0 || a.Lo>>32 != 0xffff
	}
	return a.Hi == 0 && a.Lo>>32 == 0
}

// groupOf is the group, worked out by masks.
func groupOf(a api.Addr) api.Net {
	switch {
	case !valid(a):
		return api.Net{}
	case a.V6:
		return api.Net{Addr: six(a.Hi&0xffffffff00000000, 0), Bits: 32}
	}
	return api.Net{Addr: four(a.Lo & 0xffff0000), Bits: 16}
}

// order compares subnets by their fields: IPv4 first.
func order(a, b api.Net) int {
	kind := map[bool]int{false: 4, true: 6}
	return cmp.Or(cmp.Compare(kind[a.Addr.V6], kind[b.Addr.V6]), cmp.Compare(a.Addr.Hi, b.Addr.Hi), cmp.Compare(a.Addr.Lo, b.Addr.Lo), cmp.Compare(a.Bits, b.Bits))
}

// taken is what Taken must return: each group that is not there yet comes in ahead of the first one behind it.
func taken(w scene) []api.Net {
	var l []api.Net
	for _, a := range w.takers() {
		g, i := groupOf(a), 0
		for i < len(l) && order(l[i], g) == -1 {
			i++
		}
		if i == len(l) || l[i] != g {
			l = slices.Insert(l, i, g)
		}
	}
	return l
}

// free is what Free must return.
func free(w scene, a api.Addr) bool {
	for _, b := range w.takers() {
		if together(a, b) {
			return false
		}
	}
	return valid(a)
}

// together tells whether two valid addresses are in one group.
func together(a, b api.Addr) bool {
	switch {
	case !valid(a) || !valid(b) || a.V6 != b.V6:
		return false
	case a.V6:
		return a.Hi>>32 == b.Hi>>32
	}
	return a.Lo>>16 == b.Lo>>16
}

// within hands in a scene that has others behind it, and asks that nothing is written to it.
func within(t *testing.T, w scene, ask func(scene)) {
	t.Helper()
	peers := append(slices.Clone(w.peers), out(four(0x63630001)), out(six(99<<32, 1)))
	book := append(slices.Clone(w.book), known(four(0x63640001), flying), known(six(98<<32, 1), flying))
	before := scene{slices.Clone(peers), slices.Clone(book)}
	ask(scene{peers[:len(w.peers)], book[:len(w.book)]})
	if !slices.Equal(peers, before.peers) || !slices.Equal(book, before.book) {
		t.Fatalf("%+v was changed to %+v and %+v", before, peers, book)
	}
}

func checkTaken(t *testing.T, w scene, want []api.Net) {
	t.Helper()
	within(t, w, func(w scene) {
		got := spread.Taken(w.peers, w.book)
		if !slices.Equal(got, want) {
			t.Fatalf("Taken of %+v is %+v, not %+v", w, got, want)
		}
		// What was handed out belongs to who asked: what is written to it is never seen again.
		got = got[:cap(got)]
		for i := range got {
			got[i] = api.Net{Addr: four(0x63650000), Bits: 16}
		}
		if again := spread.Taken(w.peers, w.book); !slices.Equal(again, want) {
			t.Fatalf("Taken of %+v is %+v at first, and then %+v", w, want, again)
		}
	})
}

func checkFree(t *testing.T, w scene, a api.Addr, want bool) {
	t.Helper()
	within(t, w, func(w scene) {
		if got := spread.Free(w.peers, w.book, a); got != want {
			t.Fatalf("Free of %+v and %+v is %v", w, a, got)
		}
	})
}

// check asks for the taken groups, and about some addresses.
func check(t *testing.T, w scene, l []api.Addr) {
	t.Helper()
	groups := taken(w)
	checkTaken(t, w, groups)
	for _, a := range l {
		checkFree(t, w, a, free(w, a))
		if free(w, a) != (valid(a) && !slices.Contains(groups, groupOf(a))) {
			t.Fatalf("the test itself: of %+v the groups are %+v, and %+v is free: %v", w, groups, a, free(w, a))
		}
	}
}

// bases are valid addresses: the limits of some groups and those beside them, the limits of both kinds, and addresses of both kinds that have the same fields or the same first bits.
func bases() []api.Addr {
	return []api.Addr{
		four(0), four(1), four(0xffff), four(0x10000), four(0x1ffff), four(0x20000), four(0x09ffffff), four(0x0a000000), four(0x0a00ffff), four(0x0a010000), four(0x0a010203), four(0x0a01ffff), four(0x0a020000), four(0x20010db8), four(0x7fffffff), four(0x80000000), four(0xfffeffff), four(0xffff0000), four(0xffffffff),
		six(0, 0), six(0, 1), six(0, 0x0a010203), six(0, 0xfffe0a010203), six(0, 0x1000000000000), six(0, top), six(1, 0xffff0a010203), six(0xffff, 0), six(0x10000, 0), six(0xffffffff, top), six(1<<32, 0), six(1<<32, 0xffff0a010203), six(1<<33-1, top), six(1<<33, 0), six(0x0a01020300000000, 0),
		six(six2001-1, top), six(six2001, 0), six(six2001, 1), six(six2001|0xffff, 0), six(six2001|0xffffffff, top), six(six2001+1<<32, 0), six(1<<63-1, top), six(1<<63, 0), six(top, 0), six(top, top),
	}
}

// wrong are addresses that are not valid; some have the fields or the first bits of valid ones.
func wrong() []api.Addr {
	return []api.Addr{
		four(1 << 32), four(1<<32 | 0x0a010203), four(0x0a01000000000000), four(1 << 63), four(top), {Hi: 1}, {Hi: 1, Lo: 0x0a010203}, {Hi: 1 << 32}, {Hi: six2001}, {Hi: six2001, Lo: 1}, {Hi: 1 << 63, Lo: 0xffffffff}, {Hi: top, Lo: top},
		six(0, 0xffff00000000), six(0, 0xffff00000001), six(0, 0xffff0a010203), six(0, 0xffff80000000), six(0, 0xffffffffffff),
	}
}

// extremes are numbers that are no states; some have the lower bits of one.
func extremes() []int {
	return []int{math.MinInt, math.MinInt + 2, -1 << 32, -3, -2, -1, 0, 4, 5, 6, 7, 8, 254, 256, 257, 258, 259, 1<<16 + 2, 1<<31 + 2, 1 << 32, 1<<32 + 1, 1<<32 + 2, 1<<32 + 3, 1<<62 + 2, math.MaxInt - 1, math.MaxInt}
}

// takes are the scenes in which just these addresses take their groups: as peers, in the book, and in both.
func takes(l ...api.Addr) []scene {
	var peers, book, both scene
	for i, a := range l {
		peers.peers = append(peers.peers, out(a))
		book.book = append(book.book, known(a, flying))
		if i%2 == 0 {
			both.peers = append(both.peers, out(a))
		} else {
			both.book = append(both.book, known(a, flying))
		}
	}
	return []scene{peers, book, both, {peers.peers, book.book}}
}

func TestSp1StatesAreTheGivenOnes(t *testing.T) {
	if api.Idle != idle || api.Flying != flying || api.Up != up || api.MaxLimit != topPeers || api.MaxBook != topBook {
		t.Fatal("other states or limits than the document's")
	}
}

func TestSp1ExampleOfTheChapter(t *testing.T) {
	w := read("fly=10.1.2.3")
	checkFree(t, w, address("10.1.9.9"), false)
	checkFree(t, w, address("10.2.0.1"), true)
	checkTaken(t, w, subnets("10.1.0.0/16"))
}

func TestSp1TakenByHand(t *testing.T) {
	for _, c := range []struct{ w, want string }{
		{"", ""}, {"in=10.1.2.3", ""}, {"idle=10.1.2.3", ""}, {"up=10.1.2.3", ""}, {"in=10.1.2.3 idle=10.1.2.3 up=10.1.2.4", ""}, {"out=10.1.2.3", "10.1.0.0/16"}, {"fly=10.1.2.3", "10.1.0.0/16"}, {"out=2001:db8:1:2::3", "2001:db8::/32"}, {"fly=2001:db8:1:2::3", "2001:db8::/32"},
		{"out=0.0.0.0", "0.0.0.0/16"}, {"out=255.255.255.255", "255.255.0.0/16"}, {"fly=::", "::/32"}, {"fly=ffff:ffff:ffff:ffff:ffff:ffff:ffff:ffff", "ffff:ffff::/32"}, {"out=::1.2.3.4", "::/32"}, {"out=::fffe:1.2.3.4", "::/32"},
		// Each once, whoever takes it.
		{"out=10.1.2.3 out=10.1.2.3", "10.1.0.0/16"}, {"out=10.1.2.3 out=10.1.9.9", "10.1.0.0/16"}, {"fly=10.1.2.3 fly=10.1.9.9", "10.1.0.0/16"}, {"out=10.1.2.3 fly=10.1.2.3", "10.1.0.0/16"}, {"out=10.1.2.3 fly=10.1.9.9", "10.1.0.0/16"}, {"out=10.1.2.3 out=10.2.2.3 out=10.1.9.9 fly=10.2.9.9 fly=10.1.0.0", "10.1.0.0/16 10.2.0.0/16"}, {"out=2001:db8::1 fly=2001:db8:ffff::1", "2001:db8::/32"},
		// In order, wherever they stand: by numbers and not by texts, IPv4 first.
		{"out=10.1.2.3 out=10.2.2.3", "10.1.0.0/16 10.2.0.0/16"}, {"out=10.2.2.3 out=10.1.2.3", "10.1.0.0/16 10.2.0.0/16"}, {"out=10.2.2.3 fly=10.1.2.3", "10.1.0.0/16 10.2.0.0/16"}, {"out=10.1.2.3 fly=10.2.2.3", "10.1.0.0/16 10.2.0.0/16"}, {"fly=10.2.2.3 fly=10.1.2.3", "10.1.0.0/16 10.2.0.0/16"}, {"out=10.0.0.1 out=9.0.0.1 out=100.0.0.1", "9.0.0.0/16 10.0.0.0/16 100.0.0.0/16"}, {"out=10.10.0.1 out=10.9.0.1", "10.9.0.0/16 10.10.0.0/16"},
		{"out=2001:db8::1 fly=200.1.2.3", "200.1.0.0/16 2001:db8::/32"}, {"out=:: fly=255.255.255.255", "255.255.0.0/16 ::/32"}, {"out=0.0.0.0 out=:: fly=0:1::", "0.0.0.0/16 ::/32 0:1::/32"}, {"out=2001:db9:: out=2001:db8:ffff:: fly=2001:db7::", "2001:db7::/32 2001:db8::/32 2001:db9::/32"}, {"out=8000:: out=7fff::", "7fff::/32 8000::/32"}, {"out=128.0.0.1 out=127.0.0.1", "127.0.0.0/16 128.0.0.0/16"},
		// Others don't matter.
		{"in=10.1.2.3 out=10.2.2.3 in=10.3.2.3", "10.2.0.0/16"}, {"out=10.1.2.3 in=10.2.2.3 out=10.3.2.3", "10.1.0.0/16 10.3.0.0/16"}, {"idle=10.1.2.3 fly=10.2.2.3 up=10.3.2.3", "10.2.0.0/16"}, {"fly=10.1.2.3 up=10.2.2.3 fly=10.3.2.3 idle=10.4.2.3", "10.1.0.0/16 10.3.0.0/16"}, {"in=10.1.2.3 fly=10.1.2.4", "10.1.0.0/16"}, {"out=10.1.2.3 up=10.1.2.3", "10.1.0.0/16"}, {"in=10.1.2.3 up=10.1.2.3 out=9.9.9.9", "9.9.0.0/16"},
		// All whose address is not valid take the zero subnet.
		{"out=::ffff:10.1.2.3", "0.0.0.0/0"}, {"fly=::ffff:10.1.2.3", "0.0.0.0/0"}, {"in=::ffff:10.1.2.3 idle=::ffff:10.1.2.3 up=::ffff:10.1.2.3", ""}, {"out=::ffff:10.1.2.3 out=::ffff:10.2.2.3 fly=::ffff:10.3.2.3", "0.0.0.0/0"}, {"out=0.0.0.0 fly=::ffff:10.1.2.3", "0.0.0.0/0 0.0.0.0/16"}, {"out=::ffff:10.1.2.3 out=10.1.2.3 fly=::1", "0.0.0.0/0 10.1.0.0/16 ::/32"},
	} {
		checkTaken(t, read(c.w), subnets(c.want))
	}
	checkTaken(t, scene{[]api.Peer{}, []api.Entry{}}, nil)
	checkTaken(t, scene{[]api.Peer{{}}, nil}, subnets("0.0.0.0/16"))
	checkTaken(t, scene{nil, []api.Entry{{}}}, nil)
	checkTaken(t, scene{nil, []api.Entry{{State: flying}}}, subnets("0.0.0.0/16"))
}

func TestSp1FreeByHand(t *testing.T) {
	const some = "in=10.1.0.1 out=10.2.0.1 idle=10.3.0.1 fly=10.4.0.1 up=10.5.0.1 out=2001:db8::1 fly=2001:db9::1 in=2001:dba::1"
	for _, c := range []struct {
		w, a string
		want bool
	}{
		{"", "10.1.2.3", true}, {"", "0.0.0.0", true}, {"", "255.255.255.255", true}, {"", "::", true}, {"", "::1.2.3.4", true}, {"", "::ffff:1.2.3.4", false}, {"in=10.1.2.3", "10.1.2.3", true}, {"idle=10.1.2.3", "10.1.2.3", true}, {"up=10.1.2.3", "10.1.2.3", true}, {"out=10.1.2.3", "10.1.2.3", false}, {"fly=10.1.2.3", "10.1.2.3", false},
		{"out=10.1.2.3", "10.1.0.0", false}, {"out=10.1.2.3", "10.1.255.255", false}, {"out=10.1.2.3", "10.0.255.255", true}, {"out=10.1.2.3", "10.2.0.0", true}, {"out=10.1.2.3", "11.1.2.3", true}, {"fly=0.0.0.0", "0.0.255.255", false}, {"fly=0.0.0.0", "0.1.0.0", true}, {"fly=0.0.0.0", "128.0.0.0", true},
		{"out=2001:db8::1", "2001:db8::", false}, {"out=2001:db8::1", "2001:db8:ffff:ffff:ffff:ffff:ffff:ffff", false}, {"out=2001:db8::1", "2001:db7:ffff:ffff:ffff:ffff:ffff:ffff", true}, {"out=2001:db8::1", "2001:db9::", true}, {"fly=::1", "::", false}, {"fly=::1", "0:1::", true}, {"fly=::1", "0.0.0.1", true}, {"out=0.0.0.1", "::1", true}, {"out=10.1.2.3", "::10.1.2.3", true}, {"out=10.1.2.3", "a01:203::", true}, {"out=32.1.13.184", "2001:db8::", true},
		{some, "10.1.9.9", true}, {some, "10.2.9.9", false}, {some, "10.3.9.9", true}, {some, "10.4.9.9", false}, {some, "10.5.9.9", true}, {some, "10.6.9.9", true}, {some, "2001:db8:9::9", false}, {some, "2001:db9:9::9", false}, {some, "2001:dba:9::9", true},
		// What is not valid is never free, and takes no valid address's group.
		{"out=10.1.2.3", "::ffff:10.1.2.3", false}, {"out=10.1.2.3", "::ffff:10.2.2.3", false}, {"out=::ffff:10.1.2.3", "::ffff:10.1.2.3", false}, {"out=::ffff:10.1.2.3", "10.1.2.3", true}, {"fly=::ffff:10.1.2.3", "0.0.0.0", true}, {"fly=::ffff:10.1.2.3", "::", true}, {"fly=::ffff:10.1.2.3", "::ffff", true}, {"fly=::ffff:10.1.2.3 out=10.1.2.3", "10.1.9.9", false},
	} {
		checkFree(t, read(c.w), address(c.a), c.want)
	}
	checkFree(t, scene{[]api.Peer{}, []api.Entry{}}, api.Addr{}, true)
	checkFree(t, scene{[]api.Peer{{}}, nil}, api.Addr{}, false)
	checkFree(t, scene{nil, []api.Entry{{}}}, api.Addr{}, true)
	checkFree(t, scene{nil, []api.Entry{{State: flying}}}, api.Addr{}, false)
}

// The first 16 bits of an IPv4 address decide, and the first 32 of an IPv6 address.
func TestSp1EachBit(t *testing.T) {
	for _, a := range bases() {
		for bit := range 64 {
			hi, lo, kind := a, a, a
			hi.Hi ^= 1 << bit
			lo.Lo ^= 1 << bit
			kind.V6 = !a.V6
			for _, b := range []api.Addr{hi, lo, kind} {
				for _, w := range takes(a) {
					check(t, w, []api.Addr{a, b})
				}
				for _, w := range takes(a, b) {
					check(t, w, []api.Addr{a, b})
				}
			}
			if valid(hi) {
				checkFree(t, takes(a)[0], hi, bit >= 32)
				checkFree(t, takes(a)[1], hi, bit >= 32)
			}
			if valid(lo) {
				checkFree(t, takes(a)[0], lo, !a.V6 && bit >= 16)
				checkFree(t, takes(a)[1], lo, !a.V6 && bit >= 16)
			}
		}
	}
}

func TestSp1EachPairOfAddresses(t *testing.T) {
	all := slices.Concat(bases(), wrong())
	for _, a := range all {
		for _, b := range all {
			for _, w := range takes(a, b) {
				check(t, w, nil)
			}
			check(t, scene{[]api.Peer{out(a)}, nil}, []api.Addr{b})
			check(t, scene{nil, []api.Entry{known(a, flying)}}, []api.Addr{b})
			check(t, scene{[]api.Peer{in(a)}, []api.Entry{known(a, idle), known(a, up)}}, []api.Addr{b})
			check(t, scene{[]api.Peer{in(a), out(b)}, []api.Entry{known(a, up)}}, []api.Addr{a, b})
			check(t, scene{[]api.Peer{in(a)}, []api.Entry{known(a, idle), known(b, flying)}}, []api.Addr{a, b})
		}
	}
}

func TestSp1WrongAddresses(t *testing.T) {
	for _, a := range wrong() {
		checkFree(t, scene{}, a, false)
		for _, w := range append(takes(a), takes(wrong()...)...) {
			checkTaken(t, w, []api.Net{{}})
			for _, b := range bases() {
				checkFree(t, w, b, true)
			}
			for _, b := range wrong() {
				checkFree(t, w, b, false)
			}
		}
		for _, w := range takes(bases()...) {
			checkFree(t, w, a, false)
		}
	}
}

// Of entries only those in the state Flying count, and of peers only those that did not come in.
func TestSp1EachState(t *testing.T) {
	for _, a := range []api.Addr{four(0x0a010203), six(six2001, 5), four(1 << 32)} {
		for _, state := range append(extremes(), idle, flying, up) {
			w := scene{nil, []api.Entry{known(a, state)}}
			var want []api.Net
			if state == 2 {
				want = []api.Net{groupOf(a)}
			}
			checkTaken(t, w, want)
			checkFree(t, w, a, valid(a) && state != 2)
			w = scene{[]api.Peer{in(a)}, []api.Entry{known(a, state), known(four(7), flying), known(a, state)}}
			checkTaken(t, w, taken(w))
			checkFree(t, w, a, valid(a) && state != 2)
			checkFree(t, w, four(8), false)
			checkFree(t, w, four(0x10000), true)
		}
	}
}

// Neither the port nor anything else that is known of a peer or an entry matters, valid or not.
func TestSp1OtherFields(t *testing.T) {
	ports := []int{math.MinInt, -80, -1, 0, 1, 79, 80, 65535, 65536, 1<<32 + 80, math.MaxInt}
	a, b := four(0x0a010203), six(six2001, 7)
	for _, n := range append(extremes(), ports...) {
		x, y := api.End{Addr: a, Port: n}, api.End{Addr: b, Port: n}
		w := scene{
			[]api.Peer{{End: x, Since: n, Score: api.Score{Points: n, At: n}, Ping: n, Work: n}, {End: api.End{Addr: four(5 << 16), Port: n}, In: true, Since: n, Score: api.Score{Points: n, At: n}, Ping: n, Work: n}},
			[]api.Entry{{End: y, State: flying, Fails: n, Next: n}, {End: api.End{Addr: four(6 << 16), Port: n}, State: idle, Fails: n, Next: n}, {End: api.End{Addr: four(7 << 16), Port: n}, State: up, Fails: n, Next: n}},
		}
		checkTaken(t, w, subnets("10.1.0.0/16 2001:db8::/32"))
		for _, c := range []struct {
			a    api.Addr
			want bool
		}{{a, false}, {b, false}, {four(0x0a01ffff), false}, {six(six2001+1, 0), false}, {four(5 << 16), true}, {four(6 << 16), true}, {four(7 << 16), true}} {
			checkFree(t, w, c.a, c.want)
		}
	}
}

// Peers and entries of one end count by what they are themselves, not by what the others of this end are.
func TestSp1SeveralOfOneEnd(t *testing.T) {
	for _, a := range []api.Addr{four(0x0a010203), six(six2001, 7), four(1 << 32)} {
		rows := []scene{
			{[]api.Peer{in(a), out(a)}, nil}, {[]api.Peer{out(a), in(a)}, nil}, {[]api.Peer{in(a)}, []api.Entry{known(a, flying)}}, {[]api.Peer{out(a)}, []api.Entry{known(a, up)}}, {[]api.Peer{out(a)}, []api.Entry{known(a, idle)}},
			{nil, []api.Entry{known(a, idle), known(a, flying)}}, {nil, []api.Entry{known(a, flying), known(a, idle)}}, {nil, []api.Entry{known(a, up), known(a, flying), known(a, up)}}, {[]api.Peer{in(a), in(a)}, []api.Entry{known(a, up), known(a, flying)}},
		}
		for _, w := range rows {
			checkTaken(t, w, []api.Net{groupOf(a)})
			checkFree(t, w, a, false)
		}
	}
}

// Each address alone takes its group, wherever it stands among those that take none.
func TestSp1AtEachPlace(t *testing.T) {
	none, nobody := make([]api.Peer, 40), make([]api.Entry, 40)
	for i := range none {
		none[i] = in(four(uint64(i << 16)))
		nobody[i] = known(four(uint64(i<<16)), idle+i%2*2)
	}
	for i := range none {
		for _, a := range []api.Addr{four(uint64(i << 16)), four(50 << 16), six(uint64(i)<<32, 1)} {
			peers := scene{slices.Insert(slices.Clone(none), i, out(a)), nobody}
			book := scene{none, slices.Insert(slices.Clone(nobody), i, known(a, flying))}
			for _, w := range []scene{peers, book} {
				checkTaken(t, w, []api.Net{groupOf(a)})
				checkFree(t, w, a, false)
				checkFree(t, w, four(uint64((i+1)%40<<16)), true)
			}
		}
	}
}

// few are scenes of one peer or one entry each, some of which take the same group, and some none.
func few() []scene {
	return []scene{read("out=10.1.0.1"), read("in=10.1.0.1"), read("out=10.1.9.9"), read("out=10.0.0.1"), read("out=::ffff:10.1.0.1"), read("out=2001:db8::1"), read("fly=10.1.0.1"), read("idle=10.0.0.1"), read("up=9.9.9.9"), read("fly=2001:db8::2"), read("fly=9.9.0.0"), read("fly=::ffff:9.9.9.9")}
}

// eachFew hands out all scenes of up to so many of the few, in all orders.
func eachFew(most int, see func(scene)) {
	var more func(w scene, n int)
	more = func(w scene, n int) {
		see(w)
		if n == most {
			return
		}
		for _, x := range few() {
			more(scene{slices.Concat(w.peers, x.peers), slices.Concat(w.book, x.book)}, n+1)
		}
	}
	more(scene{}, 0)
}

func TestSp1EachFew(t *testing.T) {
	asked := []api.Addr{address("10.1.5.5"), address("10.0.5.5"), address("9.9.5.5"), address("2001:db8:5::5"), address("0.0.0.1"), address("::1"), address("::ffff:10.1.0.1"), address("10.2.0.1")}
	eachFew(4, func(w scene) { check(t, w, asked) })
}

// drawn is a scene of any peers and entries, with many of one group, and some addresses that are not valid.
func drawn(random *rand.Rand, peers, book int) scene {
	var w scene
	for range peers {
		p := api.Peer{End: api.End{Addr: draw(random), Port: random.Intn(3) - 1}, In: random.Intn(2) == 0, Since: random.Intn(5), Ping: random.Intn(3), Work: random.Intn(3)}
		w.peers = append(w.peers, p)
	}
	for range book {
		e := api.Entry{End: api.End{Addr: draw(random), Port: random.Intn(3) - 1}, State: random.Intn(5), Fails: random.Intn(4), Next: random.Intn(9)}
		w.book = append(w.book, e)
	}
	return w
}

// draw is an address of one of few groups, or one that is not valid.
func draw(random *rand.Rand) api.Addr {
	all := slices.Concat(bases(), bases(), wrong())
	switch random.Intn(3) {
	case 0:
		return four(uint64(random.Intn(12)<<16 | random.Intn(1<<16)))
	case 1:
		return six(uint64(random.Intn(12))<<32|random.Uint64()&math.MaxUint32, random.Uint64())
	}
	return all[random.Intn(len(all))]
}

func TestSp1DrawnScenes(t *testing.T) {
	for seed := range int64(1500) {
		random := rand.New(rand.NewSource(seed))
		var asked []api.Addr
		for range 40 {
			asked = append(asked, draw(random))
		}
		check(t, drawn(random, random.Intn(30), random.Intn(30)), asked)
	}
}

// The order in which peers and entries stand does not matter, nor which of both it is that takes a group.
func TestSp1AnyOrder(t *testing.T) {
	for seed := range int64(100) {
		random := rand.New(rand.NewSource(seed))
		w := drawn(random, 40, 40)
		want := spread.Taken(w.peers, w.book)
		for range 5 {
			random.Shuffle(len(w.peers), func(i, k int) { w.peers[i], w.peers[k] = w.peers[k], w.peers[i] })
			random.Shuffle(len(w.book), func(i, k int) { w.book[i], w.book[k] = w.book[k], w.book[i] })
			checkTaken(t, w, want)
			for _, x := range takes(w.takers()...) {
				checkTaken(t, x, want)
			}
		}
	}
}

// As many as there may be: a group each, all of one group, and with nobody but the first or the last one of a group.
func TestSp1LongLists(t *testing.T) {
	var each, one scene
	for i := range topPeers {
		n := uint64(i * 7919 % topPeers)
		each.peers = append(each.peers, out(four(n<<16|n)))
		one.peers = append(one.peers, out(four(0x0a010000|n)))
	}
	for i := range topBook {
		n := uint64(i * 389 % topBook)
		each.book = append(each.book, known(six(n<<32|n, n), flying))
		one.book = append(one.book, known(four(0x0a010000|n), flying))
	}
	groups := spread.Taken(each.peers, each.book)
	if len(groups) != topPeers+topBook {
		t.Fatalf("%d groups are taken", len(groups))
	}
	for i, g := range groups {
		a := four(uint64(i) << 16)
		if i >= topPeers {
			a = six(uint64(i-topPeers)<<32, 0)
		}
		if g != groupOf(a) {
			t.Fatalf("group %d is %+v", i, g)
		}
	}
	checkTaken(t, one, subnets("10.1.0.0/16"))
	for _, i := range []uint64{0, 1, topBook - 1, topBook, topPeers / 2, topPeers - 1} {
		checkFree(t, each, four(i<<16|5), false)
		checkFree(t, each, six(i<<32|5, 5), i >= topBook)
	}
	checkFree(t, each, four(topPeers<<16), true)
	checkFree(t, one, four(0x0a010000), false)
	checkFree(t, one, four(0x0a020000), true)
	one.peers[0], one.book[topBook-1] = out(four(0x0a020000)), known(four(0x09000000), flying)
	checkTaken(t, one, subnets("9.0.0.0/16 10.1.0.0/16 10.2.0.0/16"))
	checkFree(t, one, four(0x0a02ffff), false)
	checkFree(t, one, four(0x0900ffff), false)
	one.peers[topPeers-1] = out(six(0, 0))
	checkTaken(t, one, subnets("9.0.0.0/16 10.1.0.0/16 10.2.0.0/16 ::/32"))
	checkFree(t, one, six(1, 1), false)
}

// There is no limit to the lists: they may have more than the slots and the book of a conf.
func TestSp1LongerLists(t *testing.T) {
	var w scene
	for i := range 2 * topPeers {
		w.peers = append(w.peers, api.Peer{End: end(six(uint64(i)<<32, 1)), In: i%2 == 0})
	}
	for i := range 20 * topBook {
		w.book = append(w.book, known(six(uint64(i)<<32, 2), 1+i%3))
	}
	var want []api.Net
	for i := range 2 * topPeers {
		if i%2 == 1 || i < 20*topBook && i%3 == 1 {
			want = append(want, groupOf(six(uint64(i)<<32, 0)))
		}
	}
	checkTaken(t, w, want)
	for _, i := range []int{0, 1, 2, 3, 4, 20*topBook - 4, 20*topBook - 2, 20 * topBook, 20*topBook + 2, 2*topPeers - 2, 2*topPeers - 1, 2 * topPeers} {
		a := six(uint64(i)<<32|9, 9)
		checkFree(t, w, a, !slices.Contains(want, groupOf(a)))
	}
}

// Many goroutines may ask about one scene at once, and about another one each.
func TestSp1ManyGoroutines(t *testing.T) {
	random := rand.New(rand.NewSource(27))
	shared := drawn(random, 60, 60)
	var wait sync.WaitGroup
	for range 16 {
		own := drawn(random, 30, 30)
		wait.Go(func() {
			for _, w := range []scene{shared, own} {
				if got := spread.Taken(w.peers, w.book); !slices.Equal(got, taken(w)) {
					t.Errorf("Taken is %+v, not %+v", got, taken(w))
				}
				for _, a := range slices.Concat(bases(), wrong()) {
					if got := spread.Free(w.peers, w.book, a); got != free(w, a) {
						t.Errorf("Free of %+v is %v", a, got)
					}
				}
			}
		})
	}
	wait.Wait()
}

// apart asks that no two of those who take groups are in one, and that all of them are valid.
func apart(t *testing.T, w scene) {
	t.Helper()
	l := w.takers()
	for i, a := range l {
		for _, b := range l[:i] {
			if together(a, b) {
				t.Fatalf("%+v and %+v are in one group", a, b)
			}
		}
		if !valid(a) {
			t.Fatalf("%+v was dialled", a)
		}
	}
	if n := len(spread.Taken(w.peers, w.book)); n != len(l) {
		t.Fatalf("%d take %d groups", len(l), n)
	}
}

// dial lets the entry of an index fly if it is idle and free.
func (w scene) dial(i int) bool {
	e := &w.book[i]
	if e.State != idle || !spread.Free(w.peers, w.book, e.End.Addr) {
		return false
	}
	e.State = flying
	return true
}

// land makes an outbound peer of a flying entry, or an idle one again.
func (w *scene) land(i int, good bool) {
	e := &w.book[i]
	switch {
	case e.State != flying:
	case good:
		e.State = up
		w.peers = append(w.peers, api.Peer{End: e.End})
	default:
		e.State = idle
	}
}

// leave takes a peer away.
func (w *scene) leave(i int) {
	p := w.peers[i]
	w.peers = slices.Delete(w.peers, i, i+1)
	for k, e := range w.book {
		if e.End == p.End && e.State == up {
			w.book[k].State = idle
		}
	}
}

// However ends are dialled where they are free, land, leave and come, no two that are dialled or dialling are in one group.
func TestSp2DialledWhereFree(t *testing.T) {
	dialled, refused := 0, 0
	for seed := range int64(60) {
		random := rand.New(rand.NewSource(seed))
		var w scene
		for i := range 60 {
			w.book = append(w.book, api.Entry{End: api.End{Addr: draw(random), Port: 1 + i}, State: idle})
		}
		for range 400 {
			i := random.Intn(len(w.book))
			switch random.Intn(5) {
			case 0, 1:
				idling, fits := w.book[i].State == idle, free(w, w.book[i].End.Addr)
				if w.dial(i) != (idling && fits) {
					t.Fatalf("%+v: dialled against %v", w.book[i], fits)
				}
				if idling && fits {
					dialled++
				} else if idling {
					refused++
				}
			case 2:
				w.land(i, random.Intn(3) > 0)
			case 3:
				w.peers = append(w.peers, in(draw(random)))
			default:
				if len(w.peers) > 0 {
					w.leave(random.Intn(len(w.peers)))
				}
			}
			apart(t, w)
		}
	}
	if dialled < 500 || refused < 500 {
		t.Fatalf("the test itself: %d were dialled, and %d were not free", dialled, refused)
	}
}

// Whoever has many addresses of a group gets one of them: as many are dialled as there are groups, in whatever order.
func TestSp2OnePerGroup(t *testing.T) {
	for seed := range int64(30) {
		random := rand.New(rand.NewSource(seed))
		var w scene
		for g := range 9 {
			for range 1 + 20*(g%2) {
				n := random.Uint64()
				w.book = append(w.book, known(four(uint64(g)<<16|n&0xffff), idle), known(six(uint64(g)<<32|n>>32, n), idle), known(six(0, 0xffff00000000|n>>32), idle))
			}
		}
		random.Shuffle(len(w.book), func(i, k int) { w.book[i], w.book[k] = w.book[k], w.book[i] })
		n := 0
		for i := range w.book {
			if w.dial(i) {
				n++
			}
			w.land(i, random.Intn(2) == 0)
			if w.book[i].State == idle {
				continue
			}
			apart(t, w)
		}
		for i := range w.book {
			w.dial(i)
		}
		apart(t, w)
		if got := len(spread.Taken(w.peers, w.book)); got != 18 || n < 18 {
			t.Fatalf("%d groups are taken, after %d dials", got, n)
		}
	}
}

// Whom one may dial takes exactly one group more, and is not free from then on, nor is anybody else there.
func TestSp2DiallingTakesAGroup(t *testing.T) {
	eachFew(3, func(w scene) {
		for _, a := range []api.Addr{address("10.1.0.1"), address("10.0.5.5"), address("9.9.5.5"), address("2001:db8:5::5"), address("0.0.0.1"), address("::1"), address("::ffff:10.1.0.1")} {
			if !spread.Free(w.peers, w.book, a) {
				continue
			}
			before := spread.Taken(w.peers, w.book)
			for _, x := range []scene{{append(slices.Clone(w.peers), out(a)), w.book}, {w.peers, append(slices.Clone(w.book), known(a, flying))}} {
				checkFree(t, x, a, false)
				after := spread.Taken(x.peers, x.book)
				i := slices.Index(after, groupOf(a))
				if i < 0 || !slices.Equal(slices.Delete(after, i, i+1), before) {
					t.Fatalf("%+v takes more than one group, or none: %+v before", a, before)
				}
			}
		}
	})
}
