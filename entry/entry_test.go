package entry_test

import (
	"math"
	"math/big"
	"sync"
	"testing"

	"doorman/api"
	"doorman/backoff"
	"doorman/entry"
)

const (
	idle     = 1
	flying   = 2
	up       = 3
	topTick  = 1 << 40
	topSpan  = 1 << 30
	topFails = 1000
	topPort  = 65535
)

func four(n uint64) api.Addr { return api.Addr{Lo: n} }

func six(hi, lo uint64) api.Addr { return api.Addr{V6: true, Hi: hi, Lo: lo} }

func end(a api.Addr, port int) api.End { return api.End{Addr: a, Port: port} }

// web is 1.2.3.4:80.
func web() api.End { return end(four(0x01020304), 80) }

// rightEnds are valid.
func rightEnds() []api.End {
	return []api.End{
		web(), end(four(0), 1), end(four(0xffffffff), topPort), end(four(0x0a010203), 8333), end(four(0x0a010203), 2),
		end(six(0, 0), 1), end(six(0, 1), 80), end(six(0, 0x01020304), 80), end(six(0x20010db8<<32, 1), topPort-1), end(six(1, 0xffff01020304), 9), end(six(math.MaxUint64, math.MaxUint64), topPort),
	}
}

// wrongEnds are those whose port, or whose address, or both are not valid.
func wrongEnds() []api.End {
	return []api.End{
		{}, end(four(0x01020304), 0), end(four(0x01020304), -1), end(four(0x01020304), -80), end(four(0x01020304), topPort+1), end(four(0x01020304), topPort+81), end(four(0x01020304), 1<<32+80), end(four(0x01020304), math.MinInt), end(four(0x01020304), math.MaxInt),
		end(six(0, 1), 0), end(six(0, 1), topPort+1), end(four(1<<32), 80), end(four(math.MaxUint64), 1), end(api.Addr{Hi: 1, Lo: 0x01020304}, 80), end(six(0, 0xffff00000000), 80), end(six(0, 0xffff01020304), 80), end(six(0, 0xffff01020304), 0),
	}
}

func allEnds() []api.End { return append(rightEnds(), wrongEnds()...) }

// around are numbers of both signs at each power of two and at the limits, rising.
func around() []int {
	l := []int{math.MinInt, math.MinInt + 1, math.MinInt + 2}
	for i := 62; i >= 3; i-- {
		p := -1 << i
		l = append(l, p-1, p, p+1)
	}
	for n := -6; n <= 6; n++ {
		l = append(l, n)
	}
	for i := 3; i < 63; i++ {
		p := 1 << i
		l = append(l, p-1, p, p+1)
		if i == 9 {
			l = append(l, topFails-2, topFails-1, topFails, topFails+1, topFails+2)
		}
	}
	return append(l, math.MaxInt-2, math.MaxInt-1, math.MaxInt)
}

// few are rising, and short enough for all combinations of several.
func few() []int {
	return []int{math.MinInt, -topTick, -topFails, -9, -1, 0, 1, 2, 3, 4, 5, 100, topFails - 1, topFails, topFails + 1, 1<<32 + 1, topTick - 1, topTick, topTick + 1, math.MaxInt}
}

// field is one of an entry's numbers: its name, where it is, and the range of its valid values.
type field struct {
	name        string
	of          func(e *api.Entry) *int
	least, most int
}

func fields() []field {
	return []field{
		{"State", func(e *api.Entry) *int { return &e.State }, idle, up},
		{"Fails", func(e *api.Entry) *int { return &e.Fails }, 0, topFails},
		{"Next", func(e *api.Entry) *int { return &e.Next }, 0, topTick},
	}
}

// with is an entry with another number in a field.
func with(e api.Entry, f field, n int) api.Entry {
	*f.of(&e) = n
	return e
}

// usual is a valid entry, in no two of whose fields the same number stands; no operation leaves it as it is.
func usual() api.Entry { return api.Entry{End: web(), State: flying, Fails: 7, Next: 500} }

// least and most are the valid entries whose numbers are at the lower and the upper ends.
func least() api.Entry { return api.Entry{End: end(four(0), 1), State: idle} }

func most() api.Entry {
	return api.Entry{End: end(six(math.MaxUint64, math.MaxUint64), topPort), State: up, Fails: topFails, Next: topTick}
}

func bases() []api.Entry { return []api.Entry{usual(), least(), most()} }

// entries are usual ones, those of each end, and those with each of the few numbers in each two fields; most of them are not valid.
func entries() []api.Entry {
	l := append(bases(), api.Entry{}, api.Entry{State: idle})
	for _, e := range bases() {
		for _, x := range allEnds() {
			other := e
			other.End = x
			l = append(l, other)
		}
	}
	for i, f := range fields() {
		for _, g := range fields()[:i] {
			for _, n := range few() {
				for _, m := range few() {
					l = append(l, with(with(usual(), f, n), g, m))
				}
			}
		}
	}
	return l
}

// rightEntries are valid ones: each end, each state, and numbers at the limits and beside them.
func rightEntries() []api.Entry {
	var l []api.Entry
	for _, x := range rightEnds() {
		for _, state := range []int{idle, flying, up} {
			for _, fails := range []int{0, 1, 2, 7, 41, topFails - 1, topFails} {
				for _, next := range []int{0, 1, 500, 1 << 32, topTick - 1, topTick} {
					l = append(l, api.Entry{End: x, State: state, Fails: fails, Next: next})
				}
			}
		}
	}
	return l
}

// confs have those three numbers that a failure goes by.
func confs() []api.Conf {
	return []api.Conf{
		{}, conf(2, 10, 4), conf(2, 10, 0), conf(60, 3600, 50), conf(1, topTick, 1), conf(topSpan, topSpan, topSpan), conf(topTick, topTick, 7), conf(0, 9, 5), conf(9, 0, 5),
		conf(math.MaxInt, math.MaxInt, math.MaxInt), conf(math.MinInt, math.MinInt, math.MinInt), conf(-2, 10, -4), conf(2, -10, 4),
	}
}

func conf(base, limit, jitter int) api.Conf {
	return api.Conf{Base: base, Cap: limit, Jitter: jitter}
}

func large(n int) *big.Int { return big.NewInt(int64(n)) }

// order compares two numbers without a comparison of ints.
func order(a, b int) int { return large(a).Cmp(large(b)) }

func beyond(n, least, most int) bool { return order(n, least) < 0 || order(n, most) > 0 }

// fitted is a number that is limited to the ticks.
func fitted(n int) int {
	switch {
	case order(n, 0) < 0:
		return 0
	case order(n, topTick) > 0:
		return topTick
	}
	return n
}

// failures is how many there are after one more.
func failures(before int) int {
	switch {
	case order(before, 0) < 0:
		return 1
	case order(before, topFails) >= 0:
		return topFails
	}
	return before + 1
}

// expectedRight says once more whether an entry is valid: by its fields, and by the lists of ends.
func expectedRight(e api.Entry) bool {
	for _, f := range fields() {
		if beyond(*f.of(&e), f.least, f.most) {
			return false
		}
	}
	for _, x := range rightEnds() {
		if e.End == x {
			return true
		}
	}
	return false
}

func expectedFail(c api.Conf, e api.Entry, now, j int) api.Entry {
	fails := failures(e.Fails)
	return api.Entry{End: e.End, State: idle, Fails: fails, Next: backoff.Next(c, fails, now, j)}
}

func checkRight(t *testing.T, e api.Entry, want bool) {
	t.Helper()
	if got := entry.Right(e); got != want {
		t.Fatalf("Right(%+v) is %v", e, got)
	}
}

func checkNew(t *testing.T, e api.End, now, want int) {
	t.Helper()
	if got := entry.New(e, now); got != (api.Entry{End: e, State: idle, Fails: 0, Next: want}) {
		t.Fatalf("New(%+v, %d) is %+v", e, now, got)
	}
}

func checkDue(t *testing.T, e api.Entry, now int, want bool) {
	t.Helper()
	if got := entry.Due(e, now); got != want {
		t.Fatalf("Due(%+v, %d) is %v", e, now, got)
	}
}

func checkFail(t *testing.T, c api.Conf, e api.Entry, now, j int, want api.Entry) {
	t.Helper()
	if got := entry.Fail(c, e, now, j); got != want {
		t.Fatalf("Fail(%+v, %+v, %d, %d) is %+v, not %+v", c, e, now, j, got, want)
	}
}

// checkMoves asks the three operations that go by an entry alone.
func checkMoves(t *testing.T, e api.Entry) {
	t.Helper()
	for _, c := range []struct {
		name      string
		got, want api.Entry
	}{
		{"Fly", entry.Fly(e), api.Entry{End: e.End, State: flying, Fails: e.Fails, Next: e.Next}},
		{"Good", entry.Good(e), api.Entry{End: e.End, State: up, Fails: 0, Next: e.Next}},
		{"Down", entry.Down(e), api.Entry{End: e.End, State: idle, Fails: e.Fails, Next: e.Next}},
	} {
		if c.got != c.want {
			t.Fatalf("%s(%+v) is %+v, not %+v", c.name, e, c.got, c.want)
		}
	}
}

func TestEt1LimitsAreTheGivenOnes(t *testing.T) {
	if api.Idle != idle || api.Flying != flying || api.Up != up {
		t.Fatal("other states than the document's")
	}
	if api.MaxTick != topTick || api.MaxSpan != topSpan || api.MaxFails != topFails || api.MaxPort != topPort {
		t.Fatal("other limits than the document's")
	}
}

func TestEt1RightByHand(t *testing.T) {
	for _, e := range []api.Entry{
		usual(), least(), most(), {End: web(), State: idle}, {End: web(), State: flying}, {End: web(), State: up}, {End: web(), State: idle, Fails: 1}, {End: web(), State: idle, Fails: topFails}, {End: web(), State: up, Next: 1}, {End: web(), State: flying, Next: topTick},
		// Failures and Next are within the same ranges in each state: also an entry that is up may have failures.
		{End: web(), State: up, Fails: topFails, Next: topTick}, {End: web(), State: flying, Fails: 3}, {End: web(), State: idle, Fails: 0, Next: 9}, {End: web(), State: idle, Fails: 9, Next: 0},
	} {
		checkRight(t, e, true)
		e.End = api.End{}
		checkRight(t, e, false)
	}
	for _, e := range []api.Entry{
		{}, {End: web()}, {State: idle}, {End: web(), State: 0, Fails: 1, Next: 1}, {End: web(), State: 4}, {End: web(), State: -1}, {End: web(), State: -idle}, {End: web(), State: 1<<32 + 1}, {End: web(), State: 257}, {End: web(), State: math.MaxInt}, {End: web(), State: math.MinInt},
		{End: web(), State: idle, Fails: -1}, {End: web(), State: flying, Fails: topFails + 1}, {End: web(), State: up, Fails: math.MinInt}, {End: web(), State: up, Fails: math.MaxInt}, {End: web(), State: idle, Fails: 1 << 32},
		{End: web(), State: idle, Next: -1}, {End: web(), State: flying, Next: topTick + 1}, {End: web(), State: up, Next: math.MinInt}, {End: web(), State: up, Next: math.MaxInt}, {End: end(four(0x01020304), 0), State: idle}, {End: end(four(0x01020304), topPort+1), State: idle}, {End: end(four(1<<32), 80), State: idle},
	} {
		checkRight(t, e, false)
	}
}

func TestEt1RightOfEachEnd(t *testing.T) {
	for _, e := range bases() {
		for _, x := range rightEnds() {
			e.End = x
			checkRight(t, e, true)
		}
		for _, x := range wrongEnds() {
			e.End = x
			checkRight(t, e, false)
		}
	}
}

func TestEt1RightOfEachField(t *testing.T) {
	for _, f := range fields() {
		l := append(around(), f.least-1, f.least, f.least+1, f.most-1, f.most, f.most+1, 2*f.most)
		for _, e := range bases() {
			for _, n := range l {
				checkRight(t, with(e, f, n), !beyond(n, f.least, f.most))
			}
		}
	}
}

// Two faults are no better than one, wherever they are, also where a sum of both numbers would lie within bounds.
func TestEt1RightOfEachPairOfFields(t *testing.T) {
	for i, f := range fields() {
		for _, g := range fields()[:i] {
			for _, n := range around() {
				for _, m := range around() {
					e := with(with(usual(), f, n), g, m)
					checkRight(t, e, !beyond(n, f.least, f.most) && !beyond(m, g.least, g.most))
					e.End.Port = 0
					checkRight(t, e, false)
				}
			}
		}
	}
}

func TestEt1RightOfMany(t *testing.T) {
	for _, e := range entries() {
		checkRight(t, e, expectedRight(e))
	}
	for _, e := range rightEntries() {
		checkRight(t, e, true)
	}
}

func TestEt1NewByHand(t *testing.T) {
	for _, c := range []struct{ now, want int }{
		{9, 9}, {0, 0}, {1, 1}, {7, 7}, {1000, 1000}, {1001, 1001}, {1 << 32, 1 << 32}, {-1, 0}, {-3, 0}, {-1 << 32, 0}, {-topTick, 0}, {math.MinInt + 1, 0}, {math.MinInt, 0},
		{topTick - 1, topTick - 1}, {topTick, topTick}, {topTick + 1, topTick}, {1 << 41, topTick}, {1 << 62, topTick}, {math.MaxInt, topTick},
	} {
		checkNew(t, web(), c.now, c.want)
		checkNew(t, end(six(0, 1), 443), c.now, c.want)
	}
}

// The end is not looked at.
func TestEt1NewOfEachEnd(t *testing.T) {
	for _, e := range allEnds() {
		for _, now := range around() {
			checkNew(t, e, now, fitted(now))
		}
	}
}

func TestEt1DueByHand(t *testing.T) {
	for _, c := range []struct {
		state, next, now int
		want             bool
	}{
		{idle, 5, 4, false}, {idle, 5, 5, true}, {idle, 5, 6, true}, {idle, 0, 0, true}, {idle, 0, 1, true}, {idle, 1, 0, false}, {idle, 100, 1000, true}, {idle, 1000, 100, false},
		{flying, 5, 4, false}, {flying, 5, 5, false}, {flying, 5, 6, false}, {flying, 0, 0, false}, {flying, 0, topTick, false}, {up, 5, 4, false}, {up, 5, 5, false}, {up, 5, 6, false}, {up, 0, 0, false}, {up, 0, topTick, false},
		{idle, topTick, topTick - 1, false}, {idle, topTick, topTick, true}, {idle, topTick - 1, topTick, true}, {idle, topTick - 1, topTick - 1, true}, {idle, topTick - 1, topTick - 2, false}, {idle, 0, topTick, true}, {idle, topTick, 0, false},
		{idle, 1 << 32, 1<<32 - 1, false}, {idle, 1 << 32, 1 << 32, true}, {idle, 1<<32 + 5, 9, false}, {idle, 5, 1 << 32, true},
	} {
		checkDue(t, api.Entry{End: web(), State: c.state, Next: c.next}, c.now, c.want)
	}
}

// Due compares both numbers as they stand, also where they are no ticks.
func TestEt1DueOfNumbersThatAreNoTicks(t *testing.T) {
	for _, c := range []struct {
		next, now int
		want      bool
	}{
		{0, -1, false}, {-1, -1, true}, {-1, 0, true}, {-1, -2, false}, {-5, -9, false}, {-9, -5, true}, {5, -5, false}, {-5, 5, true}, {0, math.MinInt, false},
		{topTick, topTick + 1, true}, {topTick + 1, topTick, false}, {topTick + 1, topTick + 1, true}, {topTick + 2, topTick + 1, false}, {topTick + 1, topTick + 2, true},
		{math.MinInt, math.MinInt, true}, {math.MinInt, math.MaxInt, true}, {math.MaxInt, math.MinInt, false}, {math.MaxInt, math.MaxInt, true}, {math.MaxInt, math.MaxInt - 1, false}, {math.MinInt + 1, math.MinInt, false}, {math.MinInt, 1, true}, {math.MaxInt, -1, false},
	} {
		checkDue(t, api.Entry{End: web(), State: idle, Next: c.next}, c.now, c.want)
		checkDue(t, api.Entry{End: web(), State: flying, Next: c.next}, c.now, false)
		checkDue(t, api.Entry{End: web(), State: up, Next: c.next}, c.now, false)
	}
}

func TestEt1DueOfAllNumbers(t *testing.T) {
	for _, next := range around() {
		for _, now := range around() {
			late := order(next, now) <= 0
			for _, fails := range []int{-1, 0, 7, topFails, topFails + 1} {
				checkDue(t, api.Entry{End: web(), State: idle, Fails: fails, Next: next}, now, late)
				checkDue(t, api.Entry{State: idle, Fails: fails, Next: next}, now, late)
				checkDue(t, api.Entry{End: web(), State: flying, Fails: fails, Next: next}, now, false)
				checkDue(t, api.Entry{End: web(), State: up, Fails: fails, Next: next}, now, false)
			}
		}
	}
}

func TestEt1OnlyIdleEntriesAreDue(t *testing.T) {
	for _, state := range around() {
		for _, now := range []int{499, 500, 501, topTick} {
			checkDue(t, api.Entry{End: web(), State: state, Fails: 7, Next: 500}, now, state == idle && now != 499)
			checkDue(t, api.Entry{State: state, Next: 500}, now, state == idle && now != 499)
		}
	}
}

// Neither the end nor the failures count, valid or not.
func TestEt1DueGoesByStateAndNext(t *testing.T) {
	for _, e := range entries() {
		for _, now := range few() {
			checkDue(t, e, now, e.State == idle && order(e.Next, now) <= 0)
		}
	}
}

func TestEt2MovesByHand(t *testing.T) {
	e := api.Entry{End: web(), State: idle, Fails: 3, Next: 40}
	if got := entry.Fly(e); got != (api.Entry{End: web(), State: 2, Fails: 3, Next: 40}) {
		t.Fatal(got)
	}
	if got := entry.Good(e); got != (api.Entry{End: web(), State: 3, Fails: 0, Next: 40}) {
		t.Fatal(got)
	}
	e.State = up
	if got := entry.Down(e); got != (api.Entry{End: web(), State: 1, Fails: 3, Next: 40}) {
		t.Fatal(got)
	}
}

// What they return does not depend on the state before, and everything else stays, valid or not.
func TestEt2MovesOfEachField(t *testing.T) {
	for _, f := range fields() {
		for _, e := range bases() {
			for _, n := range around() {
				checkMoves(t, with(e, f, n))
			}
		}
	}
}

func TestEt2MovesOfMany(t *testing.T) {
	for _, e := range entries() {
		checkMoves(t, e)
	}
	for _, e := range rightEntries() {
		checkMoves(t, e)
	}
}

func TestEt2ExampleOfTheChapter(t *testing.T) {
	for _, c := range []api.Conf{conf(2, 10, 0), conf(2, 10, 4)} {
		e := entry.New(web(), 90)
		e = entry.Fail(c, entry.Fly(e), 95, 0)
		e = entry.Fail(c, entry.Fly(e), 100, 0)
		if e != (api.Entry{End: web(), State: idle, Fails: 2, Next: 104}) {
			t.Fatal(e)
		}
		checkDue(t, e, 103, false)
		checkDue(t, e, 104, true)
	}
}

// The document's eighth example: the first failure, at 10 with 3, of an end that was learned at 5.
func TestEt2ExampleOfTheDocument(t *testing.T) {
	e := entry.New(end(four(0x07010101), 80), 5)
	want := e
	want.Fails, want.Next = 1, 15
	checkFail(t, conf(2, 10, 4), entry.Fly(e), 10, 3, want)
}

func TestEt2FailByHand(t *testing.T) {
	c := conf(2, 10, 4)
	for _, x := range []struct{ fails, now, j, count, next int }{
		{0, 100, 0, 1, 102}, {1, 100, 0, 2, 104}, {2, 100, 0, 3, 108}, {3, 100, 0, 4, 110}, {4, 100, 0, 5, 110}, {0, 0, 0, 1, 2}, {0, 100, 3, 1, 105}, {0, 100, 4, 1, 102}, {0, 100, -1, 1, 105}, {1, 7, 6, 2, 13},
		{-1, 100, 0, 1, 102}, {-2, 100, 1, 1, 103}, {-topFails, 100, 0, 1, 102}, {math.MinInt, 100, 0, 1, 102}, {math.MinInt + 1, 100, 0, 1, 102}, {-1 << 32, 100, 0, 1, 102},
		{topFails - 2, 100, 0, topFails - 1, 110}, {topFails - 1, 100, 0, topFails, 110}, {topFails, 100, 0, topFails, 110}, {topFails + 1, 100, 0, topFails, 110}, {1 << 32, 100, 0, topFails, 110}, {math.MaxInt - 1, 100, 0, topFails, 110}, {math.MaxInt, 100, 0, topFails, 110},
		{0, -1, 0, 1, 2}, {0, math.MinInt, 1, 1, 3}, {0, topTick - 3, 0, 1, topTick - 1}, {0, topTick - 2, 0, 1, topTick}, {0, topTick - 1, 0, 1, topTick}, {0, topTick, 0, 1, topTick}, {0, topTick + 1, 3, 1, topTick}, {0, math.MaxInt, 3, 1, topTick},
	} {
		for _, state := range []int{idle, flying, up, 0, 4} {
			for _, next := range []int{0, 99, 100, 5000, topTick, -1} {
				e := api.Entry{End: web(), State: state, Fails: x.fails, Next: next}
				checkFail(t, c, e, x.now, x.j, api.Entry{End: web(), State: idle, Fails: x.count, Next: x.next})
			}
		}
	}
}

// With a limit that no failures reach, each of them counts: the delay goes by the new number of them, not by the one before.
func TestEt2FailDoublesTheDelay(t *testing.T) {
	c, e, delay := conf(1, topTick, 0), entry.New(web(), 0), 1
	for n := 1; n <= topFails+3; n++ {
		e = entry.Fail(c, entry.Fly(e), 5, 0)
		want := api.Entry{End: web(), State: idle, Fails: min(n, topFails), Next: min(5+delay, topTick)}
		if e != want {
			t.Fatalf("after %d failures: %+v, not %+v", n, e, want)
		}
		delay = min(2*delay, topTick)
	}
}

func TestEt2FailOfEachField(t *testing.T) {
	for _, f := range fields() {
		for _, e := range bases() {
			for _, n := range around() {
				x := with(e, f, n)
				for _, c := range confs() {
					checkFail(t, c, x, 100, -17, expectedFail(c, x, 100, -17))
				}
			}
		}
	}
}

func TestEt2FailOfEachArgument(t *testing.T) {
	for _, e := range bases() {
		for _, n := range around() {
			for _, c := range confs() {
				checkFail(t, c, e, n, 3, expectedFail(c, e, n, 3))
				checkFail(t, c, e, 100, n, expectedFail(c, e, 100, n))
			}
			for _, c := range []api.Conf{conf(n, topTick, 7), conf(3, n, 7), conf(3, 20, n)} {
				checkFail(t, c, e, 100, -17, expectedFail(c, e, 100, -17))
			}
		}
	}
}

func TestEt2FailOfMany(t *testing.T) {
	for _, e := range entries() {
		for _, c := range confs() {
			for _, now := range []int{math.MinInt, 0, 100, topTick, math.MaxInt} {
				checkFail(t, c, e, now, 23, expectedFail(c, e, now, 23))
			}
		}
	}
}

// The conf's other numbers don't count.
func TestEt2FailGoesByThreeNumbersOfTheConf(t *testing.T) {
	for _, n := range []int{math.MinInt, -1, 0, 1, 7, topFails, topTick, math.MaxInt} {
		c := api.Conf{MaxIn: n, MaxOut: n, Shards: n, MaxBans: n, MaxBook: n, Secret: uint64(n), Quota: api.Quota{Group: n, Ping: n, Work: n, Time: n}, Half: n, Limit: n, BanFor: n, Base: 2, Cap: 10, Jitter: 4}
		checkFail(t, c, usual(), 100, -1, api.Entry{End: web(), State: idle, Fails: 8, Next: 113})
		checkFail(t, c, least(), 100, 5, api.Entry{End: least().End, State: idle, Fails: 1, Next: 103})
	}
}

// A good end starts anew with its next failure, one that went down does not.
func TestEt2FailuresAfterGoodAndDown(t *testing.T) {
	c, e := conf(2, 100, 0), api.Entry{End: web(), State: flying, Fails: 4, Next: 60}
	if got := entry.Fail(c, entry.Fly(entry.Down(entry.Good(e))), 100, 0); got != (api.Entry{End: web(), State: idle, Fails: 1, Next: 102}) {
		t.Fatal(got)
	}
	if got := entry.Fail(c, entry.Fly(entry.Down(e)), 100, 0); got != (api.Entry{End: web(), State: idle, Fails: 5, Next: 132}) {
		t.Fatal(got)
	}
}

// Many goroutines may ask at once; what one asks changes nothing for another one.
func TestEt2ManyGoroutines(t *testing.T) {
	var all sync.WaitGroup
	for g := range 16 {
		all.Go(func() {
			c, x := conf(g+1, 1000, 0), end(four(uint64(g)), g+1)
			e := entry.New(x, g)
			for n := range 2000 {
				due := entry.Due(e, g+n)
				e = entry.Fail(c, entry.Fly(e), n, g)
				if !due && n == 0 || e != expectedFail(c, api.Entry{End: x, Fails: min(n, topFails)}, n, g) {
					t.Errorf("after %d failures: %+v", n+1, e)
				}
			}
			if e = entry.Down(entry.Good(e)); !entry.Right(e) || e.Fails != 0 || e.State != idle || e.End != x {
				t.Errorf("at last: %+v", e)
			}
		})
	}
	all.Wait()
}

func TestEt3NewEntriesAreValidIfTheirEndsAre(t *testing.T) {
	for _, now := range around() {
		for _, e := range rightEnds() {
			checkRight(t, entry.New(e, now), true)
		}
		for _, e := range wrongEnds() {
			checkRight(t, entry.New(e, now), false)
		}
	}
}

// A new entry is due from its tick on, whatever that is.
func TestEt3NewEntriesAreDue(t *testing.T) {
	for _, e := range allEnds() {
		for _, now := range around() {
			checkDue(t, entry.New(e, now), fitted(now), true)
			checkDue(t, entry.New(e, now), fitted(now)-1, false)
		}
	}
}

func TestEt3ValidEntriesStayValid(t *testing.T) {
	for _, e := range rightEntries() {
		checkRight(t, e, true)
		checkRight(t, entry.Fly(e), true)
		checkRight(t, entry.Good(e), true)
		checkRight(t, entry.Down(e), true)
		for _, c := range confs() {
			for _, now := range few() {
				checkRight(t, entry.Fail(c, e, now, now), true)
				checkRight(t, entry.Fail(c, e, now, -7), true)
			}
		}
	}
}

// An end that is not valid stays as it is, so that the entry is not valid afterwards either.
func TestEt3NoOperationMendsAnEnd(t *testing.T) {
	for _, x := range wrongEnds() {
		for _, e := range bases() {
			e.End = x
			for _, got := range []api.Entry{entry.Fly(e), entry.Good(e), entry.Down(e), entry.Fail(conf(2, 10, 4), e, 100, 3)} {
				checkRight(t, got, false)
				if got.End != x {
					t.Fatalf("of %+v became %+v", e, got)
				}
			}
		}
	}
}

// checkWaits: after a failure an entry is not due before the tick of chapter 23, and is due from then on.
func checkWaits(t *testing.T, c api.Conf, e api.Entry, now, j int) {
	t.Helper()
	failed := entry.Fail(c, e, now, j)
	from := backoff.Next(c, failed.Fails, now, j)
	for _, tick := range []int{math.MinInt, -1, 0, from / 2, from - 1} {
		checkDue(t, failed, tick, tick == from)
	}
	for _, tick := range []int{from, from + 1, topTick, math.MaxInt} {
		checkDue(t, failed, tick, true)
	}
	if order(from, fitted(now)) < 0 {
		t.Fatalf("Fail(%+v, %+v, %d, %d) is due before, at %d", c, e, now, j, from)
	}
}

func TestEt3NotDueBeforeTheTickOfChapter23(t *testing.T) {
	for _, c := range confs() {
		for _, now := range few() {
			for _, j := range few() {
				for _, e := range bases() {
					checkWaits(t, c, e, now, j)
				}
			}
		}
	}
	for _, e := range entries() {
		checkWaits(t, conf(2, 10, 4), e, 100, 7)
	}
}

// An entry that flies or is up is never due; once it went down it is due again, if its tick has come.
func TestEt3DueAfterDown(t *testing.T) {
	for _, e := range rightEntries() {
		for _, now := range few() {
			checkDue(t, entry.Fly(e), now, false)
			checkDue(t, entry.Good(e), now, false)
			checkDue(t, entry.Down(entry.Good(e)), now, e.Next <= now)
			checkDue(t, entry.Down(entry.Fly(e)), now, e.Next <= now)
		}
	}
}

// draw is a plain sequence of numbers that is the same each time.
func draw(state *uint64) int {
	*state = *state*6364136223846793005 + 1442695040888963407
	return int(*state >> 8)
}

// Lives of entries: one operation after the other, drawn, each held against what it has to do.
func TestEt3Lives(t *testing.T) {
	state := uint64(25)
	spans := []int{3, 50, 1000, topSpan, topTick + 5}
	for i := range 3000 {
		c := conf(draw(&state)%spans[i%5]-1, draw(&state)%spans[i/5%5]-1, draw(&state)%spans[i/25%5]-1)
		e := entry.New(rightEnds()[i%len(rightEnds())], draw(&state)%spans[i%5])
		for range 30 {
			now, j := draw(&state)%spans[i/7%5], draw(&state)-1<<55
			checkMoves(t, e)
			checkFail(t, c, e, now, j, expectedFail(c, e, now, j))
			checkDue(t, e, now, e.State == idle && e.Next <= now)
			switch draw(&state) % 5 {
			case 0:
				e = entry.Good(e)
			case 1:
				e = entry.Down(e)
			case 2:
				e = entry.Fly(e)
			default:
				e = entry.Fail(c, e, now, j)
			}
			checkRight(t, e, true)
		}
	}
}

func TestEt3ListsAreRising(t *testing.T) {
	for _, l := range [][]int{around(), few()} {
		for i := 1; i < len(l); i++ {
			if l[i-1] >= l[i] {
				t.Fatal(l[i-1], l[i])
			}
		}
	}
}
