package book_test

import (
	"cmp"
	"encoding/binary"
	"maps"
	"math"
	"math/rand"
	"net/netip"
	"slices"
	"strconv"
	"strings"
	"sync"
	"testing"

	"doorman/api"
	"doorman/book"
)

const (
	idle     = 1
	flying   = 2
	up       = 3
	topTick  = 1099511627776
	topFails = 1000
	topPort  = 65535
	topBook  = 1024
)

// fields is an address with the bits of the library's; one that stands in IPv6 for one of IPv4 stays there, where it is not valid.
func fields(a netip.Addr) api.Addr {
	whole := a.As16()
	hi, lo := binary.BigEndian.Uint64(whole[:8]), binary.BigEndian.Uint64(whole[8:])
	if a.Is4() {
		return api.Addr{Lo: lo & math.MaxUint32}
	}
	return api.Addr{V6: true, Hi: hi, Lo: lo}
}

// end is the end of a text; it is not valid if the port is 0, or if the address stands for one of IPv4.
func end(s string) api.End {
	p := netip.MustParseAddrPort(s)
	return api.End{Addr: fields(p.Addr()), Port: int(p.Port())}
}

// ends are those of a text.
func ends(s string) []api.End {
	var l []api.End
	for _, x := range strings.Fields(s) {
		l = append(l, end(x))
	}
	return l
}

// one is the entry of a text as 1.2.3.4:80=3,7,500 (state, failures, next tick; those that are left out are 0), valid or not.
func one(s string) api.Entry {
	name, numbers, _ := strings.Cut(s, "=")
	e := api.Entry{End: end(name)}
	to := []*int{&e.State, &e.Fails, &e.Next}
	for i, number := range strings.Split(numbers, ",") {
		n, err := strconv.Atoi(number)
		if err != nil {
			panic(s)
		}
		*to[i] = n
	}
	return e
}

// list are the entries of a text.
func list(s string) []api.Entry {
	var l []api.Entry
	for _, x := range strings.Fields(s) {
		l = append(l, one(x))
	}
	return l
}

// rising are valid ends in order: the first and the last ones of both kinds, some that differ in the port alone, and some of both kinds that have the same numbers.
func rising() []api.End {
	return ends("0.0.0.0:1 0.0.0.0:2 0.0.0.0:65535 0.0.0.1:1 1.2.3.4:79 1.2.3.4:80 1.2.3.4:81 1.2.3.5:1 10.0.0.1:80 10.0.0.1:8333 127.255.255.255:65535 128.0.0.0:1 255.255.255.255:1 255.255.255.255:65535 [::]:1 [::]:65535 [::1]:1 [::1]:80 [::102:304]:80 [::ffff:ffff]:65535 [::8000:0:0:0]:5 [0:0:0:1::]:1 [0:0:0:1:0:ffff:102:304]:9 [2001:db8::]:80 [2001:db8::1]:79 [2001:db8::1]:80 [2001:db8:0:1::]:1 [8000::]:1 [ffff:ffff:ffff:ffff:ffff:ffff:ffff:ffff]:65534 [ffff:ffff:ffff:ffff:ffff:ffff:ffff:ffff]:65535")
}

// wrongEnds are those whose port, or whose address, or both are not valid.
func wrongEnds() []api.End {
	l := ends("1.2.3.4:0 0.0.0.0:0 [::]:0 [::1]:0 [::ffff:1.2.3.4]:80 [::ffff:0.0.0.0]:1 [::ffff:1.2.3.4]:0")
	for _, port := range []int{math.MinInt, -topPort, -80, -1, topPort + 1, topPort + 81, 1<<32 + 80, math.MaxInt} {
		l = append(l, api.End{Addr: api.Addr{Lo: 0x01020304}, Port: port}, api.End{Addr: api.Addr{V6: true, Lo: 1}, Port: port})
	}
	for _, a := range []api.Addr{{Lo: 1 << 32}, {Lo: 1<<32 | 0x01020304}, {Lo: math.MaxUint64}, {Hi: 1}, {Hi: 1, Lo: 0x01020304}, {Hi: math.MaxUint64, Lo: math.MaxUint64}} {
		l = append(l, api.End{Addr: a, Port: 80}, api.End{Addr: a})
	}
	return l
}

// extremes are numbers far off, of both signs.
func extremes() []int {
	return []int{math.MinInt, math.MinInt + 1, -topTick, -1 << 32, -2, -1, 1<<32 + 1, 1<<32 + 3, math.MaxInt - 1, math.MaxInt}
}

// wrong are entries that are not valid: for their end, for one of their numbers, or for several reasons.
func wrong() []api.Entry {
	l := []api.Entry{{}, {State: up}, {End: end("1.2.3.4:80")}}
	for _, e := range wrongEnds() {
		l = append(l, api.Entry{End: e, State: idle}, api.Entry{End: e, State: up, Fails: topFails, Next: topTick}, api.Entry{End: e, State: flying + 2, Fails: 3})
	}
	for _, s := range []string{"1.2.3.4:80", "[::1]:1"} {
		for _, n := range append(extremes(), 0, up+1, up+2, 255, 257, 259) {
			l = append(l, api.Entry{End: end(s), State: n, Fails: 7, Next: 500})
		}
		for _, n := range append(extremes(), topFails+1, topFails+2) {
			l = append(l, api.Entry{End: end(s), State: flying, Fails: n, Next: 500})
		}
		for _, n := range []int{math.MinInt, -topTick, -1, topTick + 1, 2 * topTick, math.MaxInt} {
			l = append(l, api.Entry{End: end(s), State: up, Fails: 7, Next: n})
		}
	}
	return l
}

// known gives the ends numbers that differ, in no order, each of them within its limits.
func known(l []api.End) []api.Entry {
	var x []api.Entry
	for i, e := range l {
		x = append(x, api.Entry{End: e, State: 1 + i*5%7%3, Fails: i * 389 % (topFails + 1), Next: i * 73856093 % topTick})
	}
	return x
}

// series are entries of so many ends, in order: one half of IPv4, one of IPv6, each with a tick of its own, and a third of them in each state.
func series(n int) []api.Entry {
	l := make([]api.Entry, n)
	for i := range l {
		e := api.End{Addr: api.Addr{Lo: uint64(i / 3)}, Port: 1 + i%3}
		e.Addr.V6 = i >= n/2
		l[i] = api.Entry{End: e, State: 1 + i%3, Fails: i % 7, Next: i}
	}
	return l
}

// valid says once more whether an entry is valid: by its numbers, and by the library.
func valid(e api.Entry) bool {
	within := func(n, least, most int) bool { return n == min(max(n, least), most) }
	return within(e.State, idle, up) && within(e.Fails, 0, topFails) && within(e.Next, 0, topTick) && within(e.End.Port, 1, topPort) && library(e.End.Addr)
}

// library tells whether an address is that of one of the library's, and not one of IPv4 that stands in IPv6.
func library(a api.Addr) bool {
	var b [16]byte
	binary.BigEndian.PutUint64(b[:8], a.Hi)
	binary.BigEndian.PutUint64(b[8:], a.Lo)
	x := netip.AddrFrom16(b)
	if a.V6 {
		return !x.Is4In6()
	}
	return fields(netip.AddrFrom4([4]byte(b[12:]))) == a
}

// order compares ends by their fields: IPv4 first.
func order(a, b api.End) int {
	kind := map[bool]int{false: 4, true: 6}
	return cmp.Or(cmp.Compare(kind[a.Addr.V6], kind[b.Addr.V6]), cmp.Compare(a.Addr.Hi, b.Addr.Hi), cmp.Compare(a.Addr.Lo, b.Addr.Lo), cmp.Compare(a.Port, b.Port))
}

// right is what Right must return: a book in order, without doubles, is what sorting and compacting makes of it.
func right(l []api.Entry) bool {
	c := slices.SortedStableFunc(slices.Values(l), func(a, b api.Entry) int { return order(a.End, b.End) })
	c = slices.CompactFunc(c, func(a, b api.Entry) bool { return a.End == b.End })
	return slices.Equal(c, l) && !slices.ContainsFunc(l, func(e api.Entry) bool { return !valid(e) })
}

// found is what Find must return, sought from the end.
func found(l []api.Entry, e api.End) int {
	at := -1
	for i, x := range slices.Backward(l) {
		if x.End == e {
			at = i
		}
	}
	return at
}

// added is what Add must return.
func added(l []api.Entry, e api.Entry, most int) ([]api.Entry, api.Errno) {
	switch {
	case !valid(e):
		return nil, api.ErrArg
	case found(l, e.End) != -1:
		return nil, api.ErrTwice
	case most <= len(l):
		return nil, api.ErrFull
	}
	for i, x := range l {
		if order(x.End, e.End) == 1 {
			return slices.Concat(l[:i], []api.Entry{e}, l[i:]), api.OK
		}
	}
	return slices.Concat(l, []api.Entry{e}), api.OK
}

// replaced is what Set must return.
func replaced(l []api.Entry, e api.Entry) []api.Entry {
	for i, x := range l {
		if x.End == e.End {
			return slices.Concat(l[:i], []api.Entry{e}, l[i+1:])
		}
	}
	return l
}

// down is what Down must return.
func down(l []api.Entry, gone []api.End) []api.Entry {
	var c []api.Entry
	for _, e := range l {
		for _, x := range gone {
			if x == e.End && e.State == up {
				e = api.Entry{End: e.End, State: idle, Fails: e.Fails, Next: e.Next}
			}
		}
		c = append(c, e)
	}
	return c
}

// alone asks for a book that is made of one that lies in a longer array: nothing is written there, nothing of it is handed out, and nothing that was handed out is used again.
func alone(t *testing.T, l []api.Entry, ask func([]api.Entry) []api.Entry) []api.Entry {
	t.Helper()
	mark := one("5.5.5.5:5=3,5,5")
	whole := slices.Concat([]api.Entry{mark}, l, []api.Entry{mark, mark})
	before := slices.Clone(whole)
	given := whole[1 : 1+len(l)]
	got := ask(given)
	if !slices.Equal(whole, before) {
		t.Fatalf("%v has become %v", before, whole)
	}
	answer := slices.Clone(got)
	got = got[:cap(got)]
	for i := range got {
		got[i] = one("6.6.6.6:6=2,6,6")
	}
	if !slices.Equal(whole, before) {
		t.Fatalf("what is made of %v is a piece of it", l)
	}
	again := [][]api.Entry{given, given[:len(l):len(l)]}
	if len(l) == 0 {
		again = append(again, nil)
	}
	for _, x := range again {
		if other := ask(x); !slices.Equal(other, answer) {
			t.Fatalf("of %v, %v is made first, and then %v", l, answer, other)
		}
	}
	return answer
}

func checkRight(t *testing.T, l []api.Entry, want bool) {
	t.Helper()
	if got := book.Right(l); got != want {
		t.Fatalf("Right(%v) is %v", l, got)
	}
}

func checkFind(t *testing.T, l []api.Entry, e api.End, want int) {
	t.Helper()
	if got := book.Find(l, e); got != want {
		t.Fatalf("Find(%v, %v) is %d, not %d", l, e, got, want)
	}
}

func checkCount(t *testing.T, l []api.Entry, state, want int) {
	t.Helper()
	if got := book.Count(l, state); got != want {
		t.Fatalf("Count(%v, %d) is %d, not %d", l, state, got, want)
	}
}

func checkAdd(t *testing.T, l []api.Entry, e api.Entry, most int, want []api.Entry, fails api.Errno) {
	t.Helper()
	got := alone(t, l, func(l []api.Entry) []api.Entry {
		x, n := book.Add(l, e, most)
		if n != fails {
			t.Fatalf("Add(%v, %v, %d) returns %d, not %d", l, e, most, n, fails)
		}
		return x
	})
	if !slices.Equal(got, want) {
		t.Fatalf("Add(%v, %v, %d) is %v, not %v", l, e, most, got, want)
	}
}

func checkSet(t *testing.T, l []api.Entry, e api.Entry, want []api.Entry) {
	t.Helper()
	got := alone(t, l, func(l []api.Entry) []api.Entry { return book.Set(l, e) })
	if !slices.Equal(got, want) {
		t.Fatalf("Set(%v, %v) is %v, not %v", l, e, got, want)
	}
}

func checkDown(t *testing.T, l []api.Entry, gone []api.End, want []api.Entry) {
	t.Helper()
	mark := end("7.7.7.7:7")
	whole := slices.Concat(gone, []api.End{mark, mark})
	before := slices.Clone(whole)
	got := alone(t, l, func(l []api.Entry) []api.Entry { return book.Down(l, whole[:len(gone)]) })
	if !slices.Equal(whole, before) {
		t.Fatalf("the ends %v have become %v", before, whole)
	}
	if !slices.Equal(got, want) {
		t.Fatalf("Down(%v, %v) is %v, not %v", l, gone, got, want)
	}
}

func holdAdd(t *testing.T, l []api.Entry, e api.Entry, most int) {
	t.Helper()
	want, fails := added(l, e, most)
	checkAdd(t, l, e, most, want, fails)
}

func holdSet(t *testing.T, l []api.Entry, e api.Entry) {
	t.Helper()
	checkSet(t, l, e, replaced(l, e))
}

func holdDown(t *testing.T, l []api.Entry, gone []api.End) {
	t.Helper()
	checkDown(t, l, gone, down(l, gone))
}

// few are entries of a few ends, some of one end, some not valid.
func few() []api.Entry {
	return list("1.0.0.0:2=3,5,9 1.0.0.0:2=3,4,8 1.0.0.0:2=2,1,7 1.0.0.0:1=1,0,6 [::1]:1=3,2,5 2.0.0.0:1=2,3,4 1.0.0.0:0=3,6,3 [::1]:1=4,7,2")
}

// eachFew calls a function with each list of up to so many of the few entries, in each order.
func eachFew(most int, see func([]api.Entry)) {
	var longer func([]api.Entry)
	longer = func(l []api.Entry) {
		see(l)
		if len(l) == most {
			return
		}
		for _, e := range few() {
			longer(append(slices.Clone(l), e))
		}
	}
	longer(nil)
}

// subsets are all choices of some ends, in their order.
func subsets(l []api.End) [][]api.End {
	all := [][]api.End{nil}
	for _, e := range l {
		for _, x := range all {
			all = append(all, append(slices.Clone(x), e))
		}
	}
	return all
}

// beside are the ends that differ from an end in one bit of one field.
func beside(e api.End) []api.End {
	other := e
	other.Addr.V6 = !e.Addr.V6
	l := []api.End{other}
	for i := range 64 {
		hi, lo, port := e, e, e
		hi.Addr.Hi ^= 1 << i
		lo.Addr.Lo ^= 1 << i
		port.Port ^= 1 << i
		l = append(l, hi, lo, port)
	}
	return l
}

func TestBo1LimitsAreTheGivenOnes(t *testing.T) {
	if api.Idle != idle || api.Flying != flying || api.Up != up {
		t.Fatal("other states than the document's")
	}
	if api.MaxTick != topTick || api.MaxFails != topFails || api.MaxPort != topPort || api.MaxBook != topBook {
		t.Fatal("other limits than the document's")
	}
	if api.OK != 0 || api.ErrArg != 1 || api.ErrFull != 5 || api.ErrTwice != 7 {
		t.Fatal("other errors than the document's")
	}
}

func TestBo1RightByHand(t *testing.T) {
	checkRight(t, nil, true)
	checkRight(t, []api.Entry{}, true)
	for _, c := range []struct {
		l    string
		want bool
	}{
		{"1.2.3.4:80=1", true}, {"1.2.3.4:80=2", true}, {"1.2.3.4:80=3", true}, {"1.2.3.4:80=1,1000,1099511627776", true}, {"0.0.0.0:1=1", true}, {"[ffff:ffff:ffff:ffff:ffff:ffff:ffff:ffff]:65535=3,1000,1099511627776", true},
		{"1.2.3.4:80=1 1.2.3.4:81=1", true}, {"1.2.3.4:80=1 1.2.3.5:80=1", true}, {"1.2.3.4:80=1 1.2.3.5:79=1", true}, {"1.2.3.4:80=1 [::1]:1=1", true}, {"255.255.255.255:65535=1 [::]:1=1", true}, {"[::ffff:ffff]:1=1 [0:0:0:1::]:1=1", true}, {"9.1.1.1:80=1 10.1.1.1:80=1", true}, {"1.1.1.1:9=1 1.1.1.1:10=1", true},
		// The order is that of the ends alone.
		{"1.2.3.4:80=3,7,500 1.2.3.4:81=2,6,400 1.2.3.4:82=1,5,300", true}, {"1.2.3.4:80=1,5,300 1.2.3.4:81=2,6,400 1.2.3.4:82=3,7,500", true}, {"1.1.1.1:1=1 2.2.2.2:1=1 3.3.3.3:1=1", true},
		{"1.2.3.4:80=0", false}, {"1.2.3.4:80=4", false}, {"1.2.3.4:80=-1", false}, {"1.2.3.4:80=1,-1", false}, {"1.2.3.4:80=1,1001", false}, {"1.2.3.4:80=1,0,-1", false}, {"1.2.3.4:80=1,0,1099511627777", false}, {"1.2.3.4:0=1", false}, {"[::ffff:1.2.3.4]:80=1", false},
		{"1.2.3.4:80=1 1.2.3.4:80=1", false}, {"1.2.3.4:80=1 1.2.3.4:80=2", false}, {"1.2.3.4:80=2 1.2.3.4:80=1", false}, {"1.2.3.4:80=1,5 1.2.3.4:80=1,6", false}, {"1.2.3.4:80=1,0,5 1.2.3.4:80=1,0,6", false},
		{"1.2.3.4:81=1 1.2.3.4:80=1", false}, {"1.2.3.5:80=1 1.2.3.4:80=1", false}, {"1.2.3.5:79=1 1.2.3.4:80=1", false}, {"[::1]:1=1 1.2.3.4:80=1", false}, {"[::]:1=1 255.255.255.255:65535=1", false}, {"10.1.1.1:80=1 9.1.1.1:80=1", false}, {"1.1.1.1:10=1 1.1.1.1:9=1", false}, {"[0:0:0:1::]:1=1 [::ffff:ffff]:1=1", false},
		{"1.1.1.1:1=1 2.2.2.2:1=1 2.2.2.2:1=1", false}, {"1.1.1.1:1=1 1.1.1.1:1=1 2.2.2.2:1=1", false}, {"1.1.1.1:1=1 3.3.3.3:1=1 2.2.2.2:1=1", false}, {"2.2.2.2:1=1 1.1.1.1:1=1 3.3.3.3:1=1", false}, {"2.2.2.2:1=1 3.3.3.3:1=1 1.1.1.1:1=1", false}, {"2.2.2.2:1=1 3.3.3.3:1=1 2.2.2.2:1=1", false},
		{"1.1.1.1:1=0 2.2.2.2:1=1 3.3.3.3:1=1", false}, {"1.1.1.1:1=1 2.2.2.2:1=0 3.3.3.3:1=1", false}, {"1.1.1.1:1=1 2.2.2.2:1=1 3.3.3.3:1=0", false}, {"1.1.1.1:1=1 2.2.2.2:0=1 3.3.3.3:1=1", false}, {"1.1.1.1:0=1 1.1.1.1:1=1", false}, {"1.1.1.1:1=1 [::ffff:1.1.1.1]:1=1", false},
	} {
		checkRight(t, list(c.l), c.want)
	}
}

func TestBo1RightOfEachPair(t *testing.T) {
	for i, a := range rising() {
		for k, b := range rising() {
			x, y := api.Entry{End: a, State: idle, Fails: 5, Next: 5}, api.Entry{End: b, State: idle, Fails: 5, Next: 5}
			checkRight(t, []api.Entry{x, y}, i < k)
			y.State, y.Fails, y.Next = up, 6, 6
			checkRight(t, []api.Entry{x, y}, i < k)
			checkRight(t, []api.Entry{y, x}, k < i)
			y.State = up + 1
			checkRight(t, []api.Entry{x, y}, false)
			checkRight(t, []api.Entry{y, x}, false)
		}
	}
}

func TestBo1RightAtEachPlace(t *testing.T) {
	l := known(rising())
	checkRight(t, l, true)
	for i := range l {
		checkRight(t, l[i:], true)
		checkRight(t, l[:i], true)
		checkRight(t, slices.Concat(l[:i], l[i+1:]), true)
		checkRight(t, slices.Insert(slices.Clone(l), i, l[i]), false)
		for _, e := range wrong() {
			c := slices.Clone(l)
			c[i] = e
			checkRight(t, c, false)
			checkRight(t, []api.Entry{e}, false)
		}
		for k := range i {
			c := slices.Clone(l)
			c[i], c[k] = l[k], l[i]
			checkRight(t, c, false)
		}
	}
}

func TestBo1RightOfEachFew(t *testing.T) {
	n := 0
	eachFew(4, func(l []api.Entry) {
		checkRight(t, l, right(l))
		if right(l) {
			n++
		}
	})
	// Each set of 1.0.0.0:1, 1.0.0.0:2 (of which there are three entries), 2.0.0.0:1 and [::1]:1.
	if n != 2*4*2*2 {
		t.Fatalf("the test itself: %d books are valid", n)
	}
}

// There is no limit to how many entries a valid book has.
func TestBo1RightOfMany(t *testing.T) {
	for _, n := range []int{1, 2, topBook - 1, topBook, topBook + 1, 20000} {
		l := series(n)
		checkRight(t, l, true)
		for _, i := range []int{0, n / 2, n - 1} {
			c := slices.Clone(l)
			c[i].Fails = topFails + 1
			checkRight(t, c, false)
		}
		checkRight(t, append(l, l[n-1]), false)
	}
}

func TestBo1FindByHand(t *testing.T) {
	for _, c := range []struct {
		l, e string
		want int
	}{
		{"", "1.2.3.4:80", -1}, {"", "0.0.0.0:0", -1}, {"1.2.3.4:80=1", "1.2.3.4:80", 0}, {"1.2.3.4:80=1", "1.2.3.4:81", -1}, {"1.2.3.4:80=1", "1.2.3.5:80", -1}, {"1.2.3.4:80=1", "[::102:304]:80", -1}, {"[::102:304]:80=1", "1.2.3.4:80", -1}, {"1.2.3.4:80=1", "[::ffff:1.2.3.4]:80", -1},
		{"1.1.1.1:1=1 2.2.2.2:1=2 3.3.3.3:1=3", "1.1.1.1:1", 0}, {"1.1.1.1:1=1 2.2.2.2:1=2 3.3.3.3:1=3", "2.2.2.2:1", 1}, {"1.1.1.1:1=1 2.2.2.2:1=2 3.3.3.3:1=3", "3.3.3.3:1", 2}, {"1.1.1.1:1=1 2.2.2.2:1=2 3.3.3.3:1=3", "4.4.4.4:1", -1}, {"1.1.1.1:1=1 2.2.2.2:1=2 3.3.3.3:1=3", "0.0.0.0:1", -1}, {"1.1.1.1:1=1 2.2.2.2:1=2 3.3.3.3:1=3", "2.2.2.2:2", -1},
		// Books that are not valid: in any order, several of one end, and ends and numbers that are not valid.
		{"3.3.3.3:1=1 2.2.2.2:1=2 1.1.1.1:1=3", "1.1.1.1:1", 2}, {"3.3.3.3:1=1 2.2.2.2:1=2 1.1.1.1:1=3", "3.3.3.3:1", 0}, {"2.2.2.2:1=1 1.1.1.1:1=1 3.3.3.3:1=1", "1.1.1.1:1", 1},
		{"1.1.1.1:1=1 1.1.1.1:1=2", "1.1.1.1:1", 0}, {"2.2.2.2:1=1 1.1.1.1:1=1 1.1.1.1:1=2 1.1.1.1:1=3", "1.1.1.1:1", 1}, {"1.1.1.1:1=0 1.1.1.1:1=1", "1.1.1.1:1", 0}, {"1.1.1.1:0=1", "1.1.1.1:0", 0}, {"1.1.1.1:1=1 [::ffff:1.1.1.1]:1=9", "[::ffff:1.1.1.1]:1", 1}, {"1.1.1.1:1=1 0.0.0.0:0=0", "0.0.0.0:0", 1},
	} {
		checkFind(t, list(c.l), end(c.e), c.want)
	}
	checkFind(t, nil, api.End{}, -1)
	checkFind(t, []api.Entry{}, api.End{}, -1)
	checkFind(t, []api.Entry{{}}, api.End{}, 0)
}

func TestBo1FindAtEachPlace(t *testing.T) {
	l := known(rising())
	back := slices.Clone(l)
	slices.Reverse(back)
	for i, e := range l {
		checkFind(t, l, e.End, i)
		checkFind(t, back, e.End, len(l)-1-i)
		checkFind(t, slices.Concat(l, back), e.End, i)
		checkFind(t, slices.Concat(back, l), e.End, len(l)-1-i)
		checkFind(t, slices.Concat(l[:i], l[i+1:]), e.End, -1)
	}
	many := series(20000)
	for i := 0; i < len(many); i += 97 {
		checkFind(t, many, many[i].End, i)
	}
}

func TestBo1FindOfExactlyThisEnd(t *testing.T) {
	l := known(rising())
	for i, e := range l {
		for _, x := range beside(e.End) {
			checkFind(t, []api.Entry{e}, x, -1)
			checkFind(t, l[i:], x, found(l[i:], x))
			checkFind(t, []api.Entry{e, {End: x}, {End: x}}, x, 1)
		}
	}
	for _, x := range wrongEnds() {
		checkFind(t, l, x, -1)
		checkFind(t, append(slices.Clone(l), api.Entry{End: x}, api.Entry{End: x, State: up}), x, len(l))
	}
}

// Ends that are not valid are told from each other by their fields, too.
func TestBo1FindOfEachPairOfEnds(t *testing.T) {
	l := slices.Concat(rising(), wrongEnds())
	for i, x := range l {
		for k, y := range l {
			want := -1
			if i == k {
				want = 0
			}
			checkFind(t, []api.Entry{{End: x}}, y, want)
		}
	}
}

// The numbers of an entry don't count.
func TestBo1FindOfEachFew(t *testing.T) {
	for _, e := range wrong() {
		checkFind(t, []api.Entry{e}, e.End, 0)
		checkFind(t, []api.Entry{one("9.9.9.9:9=1"), e, e}, e.End, 1)
	}
	eachFew(4, func(l []api.Entry) {
		for _, x := range ends("1.0.0.0:0 1.0.0.0:1 1.0.0.0:2 2.0.0.0:1 [::1]:1 1.0.0.0:3 [::1]:2 [::]:1") {
			checkFind(t, l, x, found(l, x))
		}
	})
}

func TestBo1CountByHand(t *testing.T) {
	for _, c := range []struct {
		l     string
		state int
		want  int
	}{
		{"", idle, 0}, {"", 0, 0}, {"1.1.1.1:1=1", idle, 1}, {"1.1.1.1:1=1", flying, 0}, {"1.1.1.1:1=1", up, 0}, {"1.1.1.1:1=1", 0, 0}, {"1.1.1.1:1=2", flying, 1}, {"1.1.1.1:1=2", idle, 0}, {"1.1.1.1:1=3", up, 1}, {"1.1.1.1:1=3", flying, 0},
		{"1.1.1.1:1=1 2.2.2.2:1=2 3.3.3.3:1=3 4.4.4.4:1=2 5.5.5.5:1=1 6.6.6.6:1=2", idle, 2}, {"1.1.1.1:1=1 2.2.2.2:1=2 3.3.3.3:1=3 4.4.4.4:1=2 5.5.5.5:1=1 6.6.6.6:1=2", flying, 3}, {"1.1.1.1:1=1 2.2.2.2:1=2 3.3.3.3:1=3 4.4.4.4:1=2 5.5.5.5:1=1 6.6.6.6:1=2", up, 1}, {"1.1.1.1:1=1 2.2.2.2:1=2", 9, 0},
		// Failures and ticks are no states.
		{"1.1.1.1:1=1,3,3 2.2.2.2:1=2,1,1 3.3.3.3:1=1,2,2", idle, 2}, {"1.1.1.1:1=1,3,3 2.2.2.2:1=2,1,1 3.3.3.3:1=1,2,2", flying, 1}, {"1.1.1.1:1=1,3,3 2.2.2.2:1=2,1,1 3.3.3.3:1=1,2,2", up, 0},
		// Books that are not valid: each entry counts, also those of one end, and those in another state.
		{"1.1.1.1:1=1 1.1.1.1:1=1", idle, 2}, {"2.2.2.2:1=3 1.1.1.1:1=3 1.1.1.1:0=3,-1,-1", up, 3}, {"1.1.1.1:1=0 2.2.2.2:1=0", 0, 2}, {"1.1.1.1:1=4", 4, 1}, {"1.1.1.1:1=-1", -1, 1}, {"1.1.1.1:1=-1", idle, 0}, {"1.1.1.1:1=4294967299", up, 0}, {"1.1.1.1:1=4294967299", 1<<32 + 3, 1}, {"1.1.1.1:1=3", 1<<32 + 3, 0}, {"1.1.1.1:1=-9223372036854775808", math.MinInt, 1}, {"1.1.1.1:1=9223372036854775807", math.MinInt, 0},
	} {
		checkCount(t, list(c.l), c.state, c.want)
	}
	checkCount(t, nil, 0, 0)
	checkCount(t, []api.Entry{{}}, 0, 1)
}

func TestBo1CountOfEachFew(t *testing.T) {
	eachFew(4, func(l []api.Entry) {
		n := map[int]int{}
		for _, e := range l {
			n[e.State]++
		}
		for state := -1; state <= 5; state++ {
			checkCount(t, l, state, n[state])
		}
	})
}

func TestBo1CountOfMany(t *testing.T) {
	for _, n := range []int{topBook - 1, topBook, topBook + 1, 20000} {
		l := series(n)
		for state := idle; state <= up; state++ {
			checkCount(t, l, state, (n+3-state)/3)
		}
		for _, state := range append(extremes(), 0, up+1) {
			checkCount(t, l, state, 0)
			c := slices.Clone(l)
			c[0].State, c[n/2].State, c[n-1].State = state, state, state
			checkCount(t, c, state, 3)
		}
	}
}

func TestBo2AddByHand(t *testing.T) {
	for _, c := range []struct {
		l     string
		e     string
		most  int
		want  string
		fails api.Errno
	}{
		{"", "1.2.3.4:80=1", 1, "1.2.3.4:80=1", api.OK},
		{"", "1.2.3.4:80=3,1000,1099511627776", 1024, "1.2.3.4:80=3,1000,1099511627776", api.OK},
		{"", "[::1]:65535=2,7,500", math.MaxInt, "[::1]:65535=2,7,500", api.OK},
		{"1.2.3.4:80=1", "1.2.3.4:81=2,7,500", 2, "1.2.3.4:80=1 1.2.3.4:81=2,7,500", api.OK},
		{"1.2.3.4:81=2,7,500", "1.2.3.4:80=1", 2, "1.2.3.4:80=1 1.2.3.4:81=2,7,500", api.OK},
		{"1.2.3.4:80=1", "1.2.3.5:1=2", 2, "1.2.3.4:80=1 1.2.3.5:1=2", api.OK},
		{"1.1.1.1:1=1 3.3.3.3:1=1", "2.2.2.2:1=1", 3, "1.1.1.1:1=1 2.2.2.2:1=1 3.3.3.3:1=1", api.OK},
		{"2.2.2.2:1=1 3.3.3.3:1=1", "1.1.1.1:1=1", 3, "1.1.1.1:1=1 2.2.2.2:1=1 3.3.3.3:1=1", api.OK},
		{"1.1.1.1:1=1 2.2.2.2:1=1", "3.3.3.3:1=1", 3, "1.1.1.1:1=1 2.2.2.2:1=1 3.3.3.3:1=1", api.OK},
		{"9.0.0.1:1=1 [::]:1=1", "255.0.0.1:1=1", 3, "9.0.0.1:1=1 255.0.0.1:1=1 [::]:1=1", api.OK},
		{"1.2.3.4:80=1", "[::102:304]:80=1", 2, "1.2.3.4:80=1 [::102:304]:80=1", api.OK},
		{"9.1.1.1:9=1", "10.1.1.1:9=1", 2, "9.1.1.1:9=1 10.1.1.1:9=1", api.OK},
		{"9.1.1.1:9=1", "9.1.1.1:10=1", 2, "9.1.1.1:9=1 9.1.1.1:10=1", api.OK},
		// An end that is known, full or not, whatever else the entry has.
		{"1.2.3.4:80=1", "1.2.3.4:80=1", 9, "", api.ErrTwice},
		{"1.2.3.4:80=1", "1.2.3.4:80=3,7,500", 9, "", api.ErrTwice},
		{"1.2.3.4:80=1", "1.2.3.4:80=1", 1, "", api.ErrTwice},
		{"1.2.3.4:80=1", "1.2.3.4:80=1", 0, "", api.ErrTwice},
		{"1.2.3.4:80=1", "1.2.3.4:80=1", math.MinInt, "", api.ErrTwice},
		{"1.1.1.1:1=1 2.2.2.2:1=1 3.3.3.3:1=1", "2.2.2.2:1=2", 9, "", api.ErrTwice},
		// Full.
		{"", "1.2.3.4:80=1", 0, "", api.ErrFull},
		{"", "1.2.3.4:80=1", -1, "", api.ErrFull},
		{"", "1.2.3.4:80=1", math.MinInt, "", api.ErrFull},
		{"1.2.3.4:80=1", "1.2.3.4:81=1", 1, "", api.ErrFull},
		{"1.2.3.4:80=1", "1.2.3.4:81=1", 0, "", api.ErrFull},
		{"1.1.1.1:1=1 2.2.2.2:1=1", "3.3.3.3:1=1", 1, "", api.ErrFull},
		{"1.1.1.1:1=1 2.2.2.2:1=1", "3.3.3.3:1=1", 2, "", api.ErrFull},
		// An entry that is not valid, full or not, of a known end or not.
		{"", "1.2.3.4:80=0", 1, "", api.ErrArg},
		{"", "1.2.3.4:80=4", 1, "", api.ErrArg},
		{"", "1.2.3.4:0=1", 1, "", api.ErrArg},
		{"", "1.2.3.4:80=1,1001", 1, "", api.ErrArg},
		{"", "1.2.3.4:80=1,0,-1", 1, "", api.ErrArg},
		{"", "[::ffff:1.2.3.4]:80=1", 1, "", api.ErrArg},
		{"", "1.2.3.4:80=0", 0, "", api.ErrArg},
		{"1.2.3.4:80=1", "1.2.3.4:80=0", 9, "", api.ErrArg},
		{"1.2.3.4:80=1", "1.2.3.4:80=0", 1, "", api.ErrArg},
		{"1.2.3.4:80=0", "1.2.3.4:80=0", 9, "", api.ErrArg},
		{"1.2.3.4:80=1", "1.2.3.4:81=0", 1, "", api.ErrArg},
		// Books that are not valid: ahead of the first entry behind it, however the others stand.
		{"3.3.3.3:1=1 1.1.1.1:1=1", "2.2.2.2:1=1", 9, "2.2.2.2:1=1 3.3.3.3:1=1 1.1.1.1:1=1", api.OK},
		{"1.1.1.1:1=1 4.4.4.4:1=1 2.2.2.2:1=1 5.5.5.5:1=1", "3.3.3.3:1=1", 9, "1.1.1.1:1=1 3.3.3.3:1=1 4.4.4.4:1=1 2.2.2.2:1=1 5.5.5.5:1=1", api.OK},
		{"2.2.2.2:1=1 1.1.1.1:1=1", "3.3.3.3:1=1", 9, "2.2.2.2:1=1 1.1.1.1:1=1 3.3.3.3:1=1", api.OK},
		{"3.3.3.3:1=1 1.1.1.1:1=1 2.2.2.2:1=1", "2.2.2.2:1=1", 9, "", api.ErrTwice},
		{"1.1.1.1:1=1 1.1.1.1:1=2", "2.2.2.2:1=1", 2, "", api.ErrFull},
		{"1.1.1.1:1=1 1.1.1.1:1=2", "0.0.0.1:1=1", 3, "0.0.0.1:1=1 1.1.1.1:1=1 1.1.1.1:1=2", api.OK},
		{"1.2.3.4:80=0", "1.2.3.4:80=1", 9, "", api.ErrTwice},
		{"1.2.3.4:0=9,-1,-1", "1.2.3.4:80=1", 9, "1.2.3.4:0=9,-1,-1 1.2.3.4:80=1", api.OK},
		{"[::ffff:1.2.3.4]:80=1", "1.2.3.4:80=1", 9, "1.2.3.4:80=1 [::ffff:1.2.3.4]:80=1", api.OK},
	} {
		checkAdd(t, list(c.l), one(c.e), c.most, list(c.want), c.fails)
	}
}

func TestBo2AddAtEachPlace(t *testing.T) {
	all := known(rising())
	for i, e := range all {
		l := slices.Concat(all[:i], all[i+1:])
		checkAdd(t, l, e, len(l)+1, all, api.OK)
		checkAdd(t, l, e, math.MaxInt, all, api.OK)
		for _, most := range []int{len(l), len(l) - 1, 1, 0, -1, -len(l) - 1, math.MinInt + len(l), math.MinInt} {
			checkAdd(t, l, e, most, nil, api.ErrFull)
		}
	}
}

// Whatever the entry that is there has but the end, and whatever the new one has, one end is there once.
func TestBo2AddOfKnownEnds(t *testing.T) {
	all := known(rising())
	for i, e := range all {
		for _, most := range []int{math.MinInt, -1, 0, 1, len(all) - 1, len(all), len(all) + 1, math.MaxInt} {
			checkAdd(t, all, e, most, nil, api.ErrTwice)
			checkAdd(t, all, api.Entry{End: e.End, State: up, Fails: topFails - i, Next: topTick - i}, most, nil, api.ErrTwice)
			checkAdd(t, []api.Entry{{End: e.End, State: 9, Fails: -1}}, e, most, nil, api.ErrTwice)
		}
	}
}

func TestBo2AddOfEndsBesideKnownOnes(t *testing.T) {
	for _, e := range known(rising()) {
		for _, x := range beside(e.End) {
			other := e
			other.End = x
			holdAdd(t, []api.Entry{e}, other, 2)
			holdAdd(t, []api.Entry{e}, other, 1)
			holdAdd(t, []api.Entry{other}, e, 2)
		}
	}
}

func TestBo2AddOfWrongEntries(t *testing.T) {
	all := known(rising())
	for _, e := range wrong() {
		for _, l := range [][]api.Entry{nil, all, {e}, {e, e}, {{End: e.End, State: idle}}} {
			for _, most := range []int{math.MinInt, 0, len(l), len(l) + 1, math.MaxInt} {
				checkAdd(t, l, e, most, nil, api.ErrArg)
			}
		}
	}
}

// The entries that are in the book already need not be valid.
func TestBo2AddToWrongEntries(t *testing.T) {
	for _, e := range wrong() {
		for _, x := range known(rising()) {
			for most := range 5 {
				holdAdd(t, []api.Entry{e}, x, most)
				holdAdd(t, []api.Entry{e, e}, x, most)
				holdAdd(t, []api.Entry{x, e, x}, x, most)
			}
		}
	}
}

func TestBo2AddToEachFew(t *testing.T) {
	more := append(few(), list("0.0.0.0:1=1 1.0.0.0:1=2,9,9 1.0.0.0:3=3 1.5.0.0:1=1 3.0.0.0:1=2 [::]:1=1 [::2]:1=3 [::1]:1=1,8")...)
	eachFew(3, func(l []api.Entry) {
		for _, e := range more {
			for most := -1; most <= 5; most++ {
				holdAdd(t, l, e, most)
			}
		}
	})
}

func TestBo2AddUpToTheLimit(t *testing.T) {
	all := series(topBook)
	var l []api.Entry
	for i, k := range rand.New(rand.NewSource(26)).Perm(len(all)) {
		x, e := book.Add(l, all[k], topBook)
		if e != api.OK || len(x) != i+1 || !book.Right(x) {
			t.Fatalf("entry %d: %d, and %d entries", i, e, len(x))
		}
		l = x
	}
	if !slices.Equal(l, all) {
		t.Fatal("the entries are others, or in another order")
	}
	extra := one("200.1.1.1:5=1")
	checkAdd(t, l, extra, topBook, nil, api.ErrFull)
	holdAdd(t, l, extra, topBook+1)
	checkAdd(t, l, l[500], topBook, nil, api.ErrTwice)
	holdAdd(t, l[1:], extra, topBook)
	holdAdd(t, l[:topBook-1], extra, topBook)
}

// A book may be longer than a conf's limit.
func TestBo2AddToMany(t *testing.T) {
	for _, n := range []int{topBook, topBook + 1, topBook + 2, 20000} {
		l := series(n)
		for _, e := range list("200.1.1.1:5=1,3,7 [ffff::]:1=2,4,8 0.0.0.1:4=3,5,9") {
			for _, most := range []int{0, topBook, n - 1, n, n + 1, 2 * n, math.MaxInt} {
				holdAdd(t, l, e, most)
			}
		}
		for _, i := range []int{0, 1, topBook - 1, n / 2, n - 2, n - 1} {
			for _, most := range []int{0, topBook, n, n + 1} {
				checkAdd(t, l, l[i], most, nil, api.ErrTwice)
			}
		}
	}
}

func TestBo2SetByHand(t *testing.T) {
	for _, c := range []struct{ l, e, want string }{
		{"1.2.3.4:80=1", "1.2.3.4:80=3,7,500", "1.2.3.4:80=3,7,500"},
		{"1.2.3.4:80=3,7,500", "1.2.3.4:80=1", "1.2.3.4:80=1"},
		{"1.2.3.4:80=3,7,500", "1.2.3.4:80=3,7,500", "1.2.3.4:80=3,7,500"},
		{"1.1.1.1:1=1,4,1 2.2.2.2:1=2,5,2 3.3.3.3:1=3,6,3", "1.1.1.1:1=3,8,9", "1.1.1.1:1=3,8,9 2.2.2.2:1=2,5,2 3.3.3.3:1=3,6,3"},
		{"1.1.1.1:1=1,4,1 2.2.2.2:1=2,5,2 3.3.3.3:1=3,6,3", "2.2.2.2:1=3,8,9", "1.1.1.1:1=1,4,1 2.2.2.2:1=3,8,9 3.3.3.3:1=3,6,3"},
		{"1.1.1.1:1=1,4,1 2.2.2.2:1=2,5,2 3.3.3.3:1=3,6,3", "3.3.3.3:1=1,8,9", "1.1.1.1:1=1,4,1 2.2.2.2:1=2,5,2 3.3.3.3:1=1,8,9"},
		// No such end: nothing is put in.
		{"", "1.2.3.4:80=1", ""},
		{"1.2.3.4:80=1", "1.2.3.4:81=2", "1.2.3.4:80=1"},
		{"1.2.3.4:80=1", "1.2.3.5:80=2", "1.2.3.4:80=1"},
		{"1.2.3.4:80=1", "[::102:304]:80=2", "1.2.3.4:80=1"},
		{"1.1.1.1:1=1 3.3.3.3:1=3", "2.2.2.2:1=2", "1.1.1.1:1=1 3.3.3.3:1=3"},
		{"1.1.1.1:1=1 3.3.3.3:1=3", "0.1.1.1:1=2", "1.1.1.1:1=1 3.3.3.3:1=3"},
		{"1.1.1.1:1=1 3.3.3.3:1=3", "4.4.4.4:1=2", "1.1.1.1:1=1 3.3.3.3:1=3"},
		// Entries that are not valid are set like others.
		{"1.2.3.4:80=1", "1.2.3.4:80=0", "1.2.3.4:80=0"},
		{"1.2.3.4:80=1", "1.2.3.4:80=9,-1,-1", "1.2.3.4:80=9,-1,-1"},
		{"1.2.3.4:0=1", "1.2.3.4:0=2,1001", "1.2.3.4:0=2,1001"},
		{"1.2.3.4:80=1", "1.2.3.4:0=1", "1.2.3.4:80=1"},
		// Books that are not valid: the first entry of the end, wherever it is.
		{"1.1.1.1:1=1 1.1.1.1:1=2", "1.1.1.1:1=3", "1.1.1.1:1=3 1.1.1.1:1=2"},
		{"1.1.1.1:1=1 1.1.1.1:1=1", "1.1.1.1:1=3", "1.1.1.1:1=3 1.1.1.1:1=1"},
		{"2.2.2.2:1=1 1.1.1.1:1=2 1.1.1.1:1=1", "1.1.1.1:1=3", "2.2.2.2:1=1 1.1.1.1:1=3 1.1.1.1:1=1"},
		{"3.3.3.3:1=1 2.2.2.2:1=1 1.1.1.1:1=1", "1.1.1.1:1=3", "3.3.3.3:1=1 2.2.2.2:1=1 1.1.1.1:1=3"},
	} {
		checkSet(t, list(c.l), one(c.e), list(c.want))
	}
}

func TestBo2SetAtEachPlace(t *testing.T) {
	all := known(rising())
	for i, e := range all {
		for _, x := range []api.Entry{{End: e.End, State: idle}, {End: e.End, State: up, Fails: topFails, Next: topTick}, {End: e.End}, {End: e.End, State: math.MinInt, Fails: math.MaxInt, Next: -1}} {
			want := slices.Clone(all)
			want[i] = x
			checkSet(t, all, x, want)
			checkSet(t, slices.Concat(all, all), x, slices.Concat(want, all))
			less := slices.Concat(all[:i], all[i+1:])
			checkSet(t, less, x, less)
		}
		for _, x := range beside(e.End) {
			checkSet(t, []api.Entry{e}, api.Entry{End: x, State: flying, Fails: 9}, []api.Entry{e})
			holdSet(t, all[i:], api.Entry{End: x, State: flying, Fails: 9})
		}
	}
}

func TestBo2SetOfWrongEntries(t *testing.T) {
	all := known(rising())
	for _, e := range wrong() {
		for _, l := range [][]api.Entry{nil, all, {e}, {e, e}, {{End: e.End, State: flying, Fails: 5}, {End: e.End, State: flying}}} {
			holdSet(t, l, e)
			holdSet(t, l, api.Entry{End: e.End, State: idle, Fails: 3, Next: 9})
		}
	}
}

func TestBo2SetOfEachPairOfEnds(t *testing.T) {
	l := slices.Concat(rising(), wrongEnds())
	for _, x := range l {
		for _, y := range l {
			holdSet(t, []api.Entry{{End: x, State: up, Fails: 5}}, api.Entry{End: y, State: idle, Next: 6})
		}
	}
}

func TestBo2SetOfEachFew(t *testing.T) {
	more := append(few(), list("1.0.0.0:1=3,9,9 1.0.0.0:0=1 [::1]:1=1 2.0.0.0:1=0 0.0.0.0:1=1 1.0.0.0:3=3 1.5.0.0:1=1 [::2]:1=3")...)
	eachFew(4, func(l []api.Entry) {
		for _, e := range more {
			holdSet(t, l, e)
		}
	})
}

func TestBo2SetInManyEntries(t *testing.T) {
	for _, n := range []int{topBook, 20000} {
		l := series(n)
		for _, i := range []int{0, 1, n / 3, n / 2, n - 2, n - 1} {
			holdSet(t, l, api.Entry{End: l[i].End, State: up, Fails: 999, Next: topTick})
		}
		holdSet(t, l, one("200.1.1.1:5=1"))
	}
}

func TestBo2DownByHand(t *testing.T) {
	const three = "1.1.1.1:1=3,4,1 2.2.2.2:1=3,5,2 3.3.3.3:1=3,6,3"
	for _, c := range []struct{ l, gone, want string }{
		{"1.2.3.4:80=3,7,500", "1.2.3.4:80", "1.2.3.4:80=1,7,500"},
		{"1.2.3.4:80=3", "1.2.3.4:80", "1.2.3.4:80=1"},
		{three, "1.1.1.1:1", "1.1.1.1:1=1,4,1 2.2.2.2:1=3,5,2 3.3.3.3:1=3,6,3"},
		{three, "2.2.2.2:1", "1.1.1.1:1=3,4,1 2.2.2.2:1=1,5,2 3.3.3.3:1=3,6,3"},
		{three, "3.3.3.3:1", "1.1.1.1:1=3,4,1 2.2.2.2:1=3,5,2 3.3.3.3:1=1,6,3"},
		{three, "1.1.1.1:1 3.3.3.3:1", "1.1.1.1:1=1,4,1 2.2.2.2:1=3,5,2 3.3.3.3:1=1,6,3"},
		{three, "3.3.3.3:1 1.1.1.1:1", "1.1.1.1:1=1,4,1 2.2.2.2:1=3,5,2 3.3.3.3:1=1,6,3"},
		{three, "3.3.3.3:1 2.2.2.2:1 1.1.1.1:1", "1.1.1.1:1=1,4,1 2.2.2.2:1=1,5,2 3.3.3.3:1=1,6,3"},
		// Ends that are given several times, or that are not known.
		{three, "2.2.2.2:1 2.2.2.2:1", "1.1.1.1:1=3,4,1 2.2.2.2:1=1,5,2 3.3.3.3:1=3,6,3"},
		{three, "9.9.9.9:9 2.2.2.2:1 0.0.0.0:0 [::1]:1", "1.1.1.1:1=3,4,1 2.2.2.2:1=1,5,2 3.3.3.3:1=3,6,3"},
		{three, "2.2.2.2:2", three}, {three, "2.2.2.3:1", three}, {three, "[::202:202]:1", three}, {three, "[::ffff:2.2.2.2]:1", three}, {three, "", three}, {"", "", ""}, {"", "1.1.1.1:1", ""},
		// Those that are not up stay, whatever they are.
		{"1.2.3.4:80=1,7,500", "1.2.3.4:80", "1.2.3.4:80=1,7,500"},
		{"1.2.3.4:80=2,7,500", "1.2.3.4:80", "1.2.3.4:80=2,7,500"},
		{"1.2.3.4:80=0,7,500", "1.2.3.4:80", "1.2.3.4:80=0,7,500"},
		{"1.2.3.4:80=4,7,500", "1.2.3.4:80", "1.2.3.4:80=4,7,500"},
		{"1.2.3.4:80=-3,7,500", "1.2.3.4:80", "1.2.3.4:80=-3,7,500"},
		{"1.2.3.4:80=4294967299,7,500", "1.2.3.4:80", "1.2.3.4:80=4294967299,7,500"},
		{"1.1.1.1:1=1 2.2.2.2:1=2 3.3.3.3:1=3 4.4.4.4:1=2", "1.1.1.1:1 2.2.2.2:1 3.3.3.3:1 4.4.4.4:1", "1.1.1.1:1=1 2.2.2.2:1=2 3.3.3.3:1=1 4.4.4.4:1=2"},
		// Books that are not valid: each entry of the end, also such as are not valid, wherever they are.
		{"1.1.1.1:1=3,4,1 1.1.1.1:1=3,5,2", "1.1.1.1:1", "1.1.1.1:1=1,4,1 1.1.1.1:1=1,5,2"},
		{"1.1.1.1:1=2,4,1 2.2.2.2:1=3 1.1.1.1:1=3,5,2", "1.1.1.1:1", "1.1.1.1:1=2,4,1 2.2.2.2:1=3 1.1.1.1:1=1,5,2"},
		{"3.3.3.3:1=3 2.2.2.2:1=3 1.1.1.1:1=3", "1.1.1.1:1 3.3.3.3:1", "3.3.3.3:1=1 2.2.2.2:1=3 1.1.1.1:1=1"},
		{"1.1.1.1:0=3,-4,-5", "1.1.1.1:0", "1.1.1.1:0=1,-4,-5"},
		{"1.1.1.1:1=3,1001,1099511627777", "1.1.1.1:1", "1.1.1.1:1=1,1001,1099511627777"},
		{"[::ffff:1.1.1.1]:1=3", "[::ffff:1.1.1.1]:1", "[::ffff:1.1.1.1]:1=1"},
		{"[::ffff:1.1.1.1]:1=3", "1.1.1.1:1", "[::ffff:1.1.1.1]:1=3"},
	} {
		checkDown(t, list(c.l), ends(c.gone), list(c.want))
	}
	checkDown(t, []api.Entry{{State: up}}, []api.End{{}}, []api.Entry{{State: idle}})
}

func TestBo2DownAtEachPlace(t *testing.T) {
	all := known(rising())
	for i, e := range all {
		l := slices.Clone(all)
		l[i].State = up
		want := slices.Clone(l)
		want[i].State = idle
		checkDown(t, l, []api.End{e.End}, want)
		checkDown(t, slices.Concat(l, l), []api.End{e.End}, slices.Concat(want, want))
		l[i].State = flying
		checkDown(t, l, []api.End{e.End}, l)
		for _, x := range beside(e.End) {
			single := []api.Entry{{End: e.End, State: up, Fails: 7, Next: 500}}
			checkDown(t, single, []api.End{x}, single)
			holdDown(t, all[i:], []api.End{x})
		}
	}
	for i := range all {
		holdDown(t, all, rising()[i:])
		holdDown(t, all, rising()[:i])
		holdDown(t, all, append(wrongEnds(), rising()[:i]...))
	}
}

func TestBo2DownOfWrongEntries(t *testing.T) {
	for _, e := range wrong() {
		for _, state := range []int{e.State, idle, flying, up} {
			e.State = state
			holdDown(t, []api.Entry{e}, []api.End{e.End})
			holdDown(t, []api.Entry{e, one("9.9.9.9:9=3,1,1"), e}, []api.End{e.End, e.End})
			holdDown(t, []api.Entry{e, one("9.9.9.9:9=3,1,1"), e}, ends("9.9.9.9:9"))
			holdDown(t, known(rising()), []api.End{e.End})
		}
	}
}

func TestBo2DownOfEachPairOfEnds(t *testing.T) {
	l := slices.Concat(rising(), wrongEnds())
	for _, x := range l {
		for _, y := range l {
			holdDown(t, []api.Entry{{End: x, State: up, Fails: 5, Next: 6}}, []api.End{y})
		}
	}
}

func TestBo2DownOfEachState(t *testing.T) {
	for _, state := range append(extremes(), -4, -3, 0, idle, flying, up, 4, 5, 6, 255, 256, 257, 259, 1<<32+2) {
		e := api.Entry{End: end("1.2.3.4:80"), State: state, Fails: 7, Next: 500}
		want := e
		if state == up {
			want.State = idle
		}
		checkDown(t, []api.Entry{e}, []api.End{e.End}, []api.Entry{want})
		checkDown(t, []api.Entry{e}, ends("1.2.3.4:81"), []api.Entry{e})
	}
}

func TestBo2DownOfEachFew(t *testing.T) {
	choices := subsets(ends("[::1]:1 1.0.0.0:2 1.0.0.0:0 2.0.0.0:1 1.0.0.0:1"))
	eachFew(3, func(l []api.Entry) {
		for _, gone := range choices {
			holdDown(t, l, gone)
			holdDown(t, l, append(ends("1.0.0.0:3 [::2]:1"), gone...))
		}
	})
}

// There may be as many ends as peers: of those that came, and of those that were dialled.
func TestBo2DownOfMany(t *testing.T) {
	l := series(topBook)
	for i := range l {
		l[i].State = up
	}
	gone := make([]api.End, 2*api.MaxLimit)
	for i := range gone {
		gone[i] = api.End{Addr: api.Addr{Lo: uint64(1<<20 + i)}, Port: 1}
	}
	checkDown(t, l, gone, l)
	want := slices.Clone(l)
	for i := 0; i < len(l); i += 3 {
		gone[len(gone)-1-100*i/3] = l[i].End
		want[i].State = idle
	}
	checkDown(t, l, gone, want)
	holdDown(t, series(20000), gone[:3])
}

// model is a book without an order.
type model map[api.End]api.Entry

func (m model) book() []api.Entry {
	var l []api.Entry
	for _, e := range slices.SortedFunc(maps.Keys(m), order) {
		l = append(l, m[e])
	}
	return l
}

// add is what Add does with the model.
func (m model) add(e api.Entry, most int) api.Errno {
	_, there := m[e.End]
	switch {
	case !valid(e):
		return api.ErrArg
	case there:
		return api.ErrTwice
	case len(m) >= most:
		return api.ErrFull
	}
	m[e.End] = e
	return api.OK
}

// set is what Set does with it.
func (m model) set(e api.Entry) {
	if _, there := m[e.End]; there {
		m[e.End] = e
	}
}

// down is what Down does with it.
func (m model) down(gone []api.End) {
	for _, x := range gone {
		if e := m[x]; e.State == up {
			e.State = idle
			m[x] = e
		}
	}
}

func (m model) count(state int) int {
	n := 0
	for _, e := range m {
		if e.State == state {
			n++
		}
	}
	return n
}

// Whatever is done, one thing behind the other, a valid book stays valid and has the entries of the model.
func TestBo3ManyOperations(t *testing.T) {
	names := slices.Concat(rising(), wrongEnds()[:5])
	for seed := range int64(12) {
		random := rand.New(rand.NewSource(seed))
		most := []int{1, 3, 20, topBook}[seed%4]
		m := model{}
		var l []api.Entry
		for i := range 3000 {
			x := names[random.Intn(len(names))]
			e := api.Entry{End: x, State: 1 + random.Intn(3), Fails: random.Intn(topFails + 1), Next: random.Intn(topTick + 1)}
			switch random.Intn(4) {
			case 0, 1:
				e.Fails += random.Intn(200)
				want := m.add(e, most)
				c, fails := book.Add(l, e, most)
				if fails != want || fails != api.OK && len(c) > 0 {
					t.Fatalf("Add returns %d with %v, not %d", fails, c, want)
				}
				if fails == api.OK {
					l = c
				}
			case 2:
				m.set(e)
				l = book.Set(l, e)
			default:
				gone := []api.End{x, names[random.Intn(len(names))], x}
				m.down(gone)
				l = book.Down(l, gone)
			}
			if !slices.Equal(l, m.book()) || !book.Right(l) {
				t.Fatalf("step %d: %v instead of %v", i, l, m.book())
			}
			checkFind(t, l, x, found(m.book(), x))
			for state := range 5 {
				checkCount(t, l, state, m.count(state))
			}
		}
	}
}

func TestBo3ValidBooksStayValid(t *testing.T) {
	n := 0
	more := slices.Concat(few(), known(rising()), wrong())
	choices := subsets(ends("[::1]:1 1.0.0.0:2 1.0.0.0:0 2.0.0.0:1 1.0.0.0:1"))
	eachFew(4, func(l []api.Entry) {
		if !right(l) {
			return
		}
		n++
		for _, e := range more {
			if x, fails := book.Add(l, e, 9); fails == api.OK {
				checkRight(t, x, true)
			}
			// An entry that is not valid makes the book so if its end is there, and not otherwise.
			checkRight(t, book.Set(l, e), valid(e) || found(l, e.End) == -1)
		}
		for _, gone := range choices {
			checkRight(t, book.Down(l, gone), true)
		}
	})
	if n != 32 {
		t.Fatalf("the test itself: %d books are valid", n)
	}
}

func TestBo3OperationsAtEachPlace(t *testing.T) {
	all := known(rising())
	for i, e := range all {
		less := slices.Concat(all[:i], all[i+1:])
		x, fails := book.Add(less, e, len(all))
		if fails != api.OK {
			t.Fatalf("Add returns %d", fails)
		}
		checkRight(t, x, true)
		for state := idle; state <= up; state++ {
			for _, fails := range []int{0, 1, topFails - 1, topFails} {
				for _, next := range []int{0, 1, topTick - 1, topTick} {
					x = book.Set(x, api.Entry{End: e.End, State: state, Fails: fails, Next: next})
					checkRight(t, x, true)
					checkRight(t, book.Down(x, []api.End{e.End}), true)
					checkRight(t, book.Down(x, rising()), true)
				}
			}
		}
		checkRight(t, book.Set(x, api.Entry{End: e.End, State: up + 1}), false)
	}
}

// After Down none of the ends is up, and a second time changes nothing.
func TestBo3DownOnce(t *testing.T) {
	all := known(rising())
	for i := range all {
		gone := rising()[:i]
		x := book.Down(all, gone)
		checkCount(t, x[:i], up, 0)
		checkCount(t, x[i:], up, book.Count(all[i:], up))
		checkDown(t, x, gone, x)
	}
	checkCount(t, book.Down(all, rising()), idle, book.Count(all, idle)+book.Count(all, up))
}

// Many goroutines may ask for books that are made of one book.
func TestBo3ManyGoroutines(t *testing.T) {
	all := known(rising())
	l := all[:len(all)-1]
	before := slices.Clone(all)
	gone := rising()
	var wait sync.WaitGroup
	for range 8 {
		wait.Go(func() {
			for i, e := range before {
				x := api.Entry{End: e.End, State: up, Fails: 999, Next: 7}
				more, fails := book.Add(l, x, topBook)
				want, number := added(before[:len(before)-1], x, topBook)
				if fails != number || !slices.Equal(more, want) {
					t.Errorf("Add of %v: %v, %d", x, more, fails)
				}
				if set := book.Set(l, x); !slices.Equal(set, replaced(before[:len(before)-1], x)) {
					t.Errorf("Set of %v: %v", x, set)
				}
				if less := book.Down(l, gone[i:]); !slices.Equal(less, down(before[:len(before)-1], gone[i:])) {
					t.Errorf("Down of %v: %v", gone[i:], less)
				}
			}
		})
	}
	wait.Wait()
	if !slices.Equal(all, before) {
		t.Error("the book has changed")
	}
}
