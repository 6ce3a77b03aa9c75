package heap_test

import (
	"math"
	"slices"
	"sort"
	"sync"
	"testing"

	"doorman/api"
	"doorman/heap"
)

const (
	topTick = 1 << 40
	topPort = 65535
	topBook = 1024
	top     = math.MaxUint64
	six2001 = 0x20010db8 << 32
)

func four(n uint64) api.Addr { return api.Addr{Lo: n} }

func six(hi, lo uint64) api.Addr { return api.Addr{V6: true, Hi: hi, Lo: lo} }

func end(a api.Addr, port int) api.End { return api.End{Addr: a, Port: port} }

// item is one with a key, at the n-th address of 10.0.0.0/8.
func item(key int, n uint64) heap.Item {
	return heap.Item{Key: key, End: end(four(10<<24+n), 80)}
}

// keyed are items without an end.
func keyed(keys ...int) []heap.Item {
	l := make([]heap.Item, len(keys))
	for i, key := range keys {
		l[i].Key = key
	}
	return l
}

// keys are those of both signs at each limit and beside it, and ordinary ones, in order.
func keys() []int {
	return []int{
		math.MinInt, math.MinInt + 1, -topTick - 1, -topTick, -1 << 32, -1 << 31, -257, -256, -9, -2, -1, 0, 1, 2, 9, 10, 255, 256, 257, 1000, topBook, topPort, topPort + 1,
		1<<31 - 1, 1 << 31, 1<<32 - 1, 1 << 32, 1<<32 + 1, topTick - 1, topTick, topTick + 1, 1 << 53, 1<<53 + 1, 1<<62 - 1, 1 << 62, math.MaxInt - 1, math.MaxInt,
	}
}

// ends are in order, valid ones and such as are not.
func ends() []api.End {
	return []api.End{
		end(four(0), math.MinInt), end(four(0), -1), {}, end(four(0), 1), end(four(0), topPort), end(four(1), 1), end(four(10<<24), 80), end(four(10<<24+1), -80), end(four(10<<24+1), 79), end(four(10<<24+1), 80), end(four(10<<24+1), 8080),
		end(four(10<<24+2), 1), end(four(0xffffffff), topPort), end(four(0xffffffff), topPort+1), end(four(1<<32), 80), end(four(1<<63), 1), end(four(top), 1), end(api.Addr{Hi: 1}, 5), end(api.Addr{Hi: 1, Lo: 1}, 3), end(api.Addr{Hi: top}, 0),
		end(six(0, 0), 1), end(six(0, 1), 80), end(six(0, 0xffff0a000001), 80), end(six(1, 0), 80), end(six(six2001, 1), 79), end(six(six2001, 1), 80), end(six(six2001+1, 0), 80), end(six(1<<63, 0), 1), end(six(top, top), topPort), end(six(top, top), math.MaxInt),
	}
}

// precedes says once more, field by field, which item comes first.
func precedes(a, b heap.Item) bool {
	x, y := a.End.Addr, b.End.Addr
	switch {
	case a.Key != b.Key:
		return a.Key < b.Key
	case x.V6 != y.V6:
		return y.V6
	case x.Hi != y.Hi:
		return x.Hi < y.Hi
	case x.Lo != y.Lo:
		return x.Lo < y.Lo
	}
	return a.End.Port < b.End.Port
}

// heaped says once more whether a list is a heap: it looks at the items below each one.
func heaped(h []heap.Item) bool {
	for i := range h {
		for _, below := range []int{2*i + 1, 2*i + 2} {
			if below < len(h) && precedes(h[below], h[i]) {
				return false
			}
		}
	}
	return true
}

// arranged puts each item ahead of those that it precedes.
func arranged(l []heap.Item) []heap.Item {
	row := slices.Clone(l)
	sort.Slice(row, func(i, j int) bool { return precedes(row[i], row[j]) })
	return row
}

// sameItems asks that two lists have the same items, each as often.
func sameItems(a, b []heap.Item) bool { return slices.Equal(arranged(a), arranged(b)) }

// lined hands in a list with something behind it, and asks that nothing is written to it.
func lined(t *testing.T, l []heap.Item, ask func([]heap.Item)) {
	t.Helper()
	own := slices.Concat(l, keyed(math.MinInt, 5, math.MaxInt))
	before := slices.Clone(own)
	ask(own[:len(l)])
	if !slices.Equal(own, before) {
		t.Fatalf("%+v was changed to %+v", before, own)
	}
}

func checkAhead(t *testing.T, a, b heap.Item, want bool) {
	t.Helper()
	if got := heap.Ahead(a, b); got != want {
		t.Fatalf("Ahead(%+v, %+v) is %v", a, b, got)
	}
}

// checkOrder: the first item precedes the second one, and not the other way round.
func checkOrder(t *testing.T, a, b heap.Item) {
	t.Helper()
	checkAhead(t, a, b, true)
	checkAhead(t, b, a, false)
}

func checkRight(t *testing.T, h []heap.Item, want bool) {
	t.Helper()
	lined(t, h, func(h []heap.Item) {
		if got := heap.Right(h); got != want {
			t.Fatalf("Right(%+v) is %v", h, got)
		}
	})
}

func checkMake(t *testing.T, l []heap.Item) {
	t.Helper()
	lined(t, l, func(l []heap.Item) {
		if h := heap.Make(l); !heaped(h) || !sameItems(h, l) {
			t.Fatalf("Make(%+v) is %+v", l, h)
		}
	})
}

func checkSorted(t *testing.T, l, want []heap.Item) {
	t.Helper()
	lined(t, l, func(l []heap.Item) {
		if got := heap.Sorted(l); !slices.Equal(got, want) {
			t.Fatalf("Sorted(%+v) is %+v, not %+v", l, got, want)
		}
	})
}

// checkPush pushes an item to a heap.
func checkPush(t *testing.T, h []heap.Item, x heap.Item) {
	t.Helper()
	lined(t, h, func(h []heap.Item) {
		if more := heap.Push(h, x); !heaped(more) || !sameItems(more, append(slices.Clone(h), x)) {
			t.Fatalf("Push(%+v, %+v) is %+v", h, x, more)
		}
	})
}

// checkPop pops from a heap that is not empty.
func checkPop(t *testing.T, h []heap.Item) {
	t.Helper()
	want := arranged(h)
	lined(t, h, func(h []heap.Item) {
		x, rest, ok := heap.Pop(h)
		if !ok || x != want[0] || !heaped(rest) || !sameItems(rest, want[1:]) {
			t.Fatalf("Pop(%+v) is %+v, %+v, %v", h, x, rest, ok)
		}
	})
}

func checkNothing(t *testing.T, h []heap.Item) {
	t.Helper()
	if x, rest, ok := heap.Pop(h); ok || x != (heap.Item{}) || len(rest) != 0 {
		t.Fatalf("Pop of nothing is %+v, %+v, %v", x, rest, ok)
	}
}

// checkReturns asks of a list that is no heap only that the calls return and write nothing to it.
func checkReturns(t *testing.T, l []heap.Item) {
	t.Helper()
	lined(t, l, func(l []heap.Item) {
		heap.Pop(l)
		for _, x := range append(keyed(math.MinInt, 0, math.MaxInt), l...) {
			heap.Push(l, x)
		}
	})
}

// popped are the items of a heap as they come out of it.
func popped(t *testing.T, h []heap.Item) []heap.Item {
	t.Helper()
	var row []heap.Item
	for range len(h) {
		x, rest, ok := heap.Pop(h)
		if !ok || len(rest) != len(h)-1 {
			t.Fatalf("Pop(%+v) is %+v, %+v, %v", h, x, rest, ok)
		}
		row, h = append(row, x), rest
	}
	checkNothing(t, h)
	return row
}

func checkPopped(t *testing.T, h, want []heap.Item) {
	t.Helper()
	if got := popped(t, h); !slices.Equal(got, want) {
		t.Fatalf("out of %+v come %+v, not %+v", h, got, want)
	}
}

// checkList asks of a list all that may be asked of it.
func checkList(t *testing.T, l []heap.Item) {
	t.Helper()
	checkRight(t, l, heaped(l))
	checkMake(t, l)
	checkSorted(t, l, arranged(l))
	checkPopped(t, heap.Make(l), arranged(l))
	if !heaped(l) {
		checkReturns(t, l)
		return
	}
	for _, x := range append(keyed(math.MinInt, 0, math.MaxInt), l...) {
		checkPush(t, l, x)
	}
	if len(l) > 0 {
		checkPop(t, l)
		checkPopped(t, l, arranged(l))
	}
}

// draw is a plain sequence of numbers that is the same each time.
func draw(state *uint64) int {
	*state = *state*6364136223846793005 + 1442695040888963407
	return int(*state >> 8)
}

// drawn is a list of any length, with so many different keys, and with few ends.
func drawn(n, most int, state *uint64) []heap.Item {
	l := make([]heap.Item, n)
	for i := range l {
		a := four(uint64(10<<24 + draw(state)%5))
		if draw(state)%3 == 0 {
			a = six(uint64(six2001+draw(state)%3), uint64(draw(state)%3))
		}
		l[i] = heap.Item{Key: draw(state)%most - most/2, End: end(a, 79+draw(state)%3)}
	}
	return l
}

// apart are items of which no two are equal, the ends one behind the other.
func apart(n int) []heap.Item {
	l := make([]heap.Item, n)
	for i := range l {
		l[i] = item(i/2, uint64(i))
	}
	return l
}

func shuffled(l []heap.Item, state *uint64) []heap.Item {
	l = slices.Clone(l)
	for i := range l {
		j := i + draw(state)%(len(l)-i)
		l[i], l[j] = l[j], l[i]
	}
	return l
}

// few are items some of which differ in one field only.
func few() []heap.Item {
	return []heap.Item{{}, {Key: -1, End: end(six(0, 0), 80)}, {End: end(four(0), 1)}, {End: end(six(0, 0), -1)}, {Key: 1}}
}

// eachFew hands out all lists of at most so many of the few.
func eachFew(most int, see func([]heap.Item)) {
	var more func(l []heap.Item)
	more = func(l []heap.Item) {
		see(l)
		if len(l) == most {
			return
		}
		for _, x := range few() {
			more(append(slices.Clone(l), x))
		}
	}
	more(nil)
}

// eachRow hands out all the rows in which items may stand.
func eachRow(l []heap.Item, see func([]heap.Item)) {
	row := slices.Clone(l)
	var next func(i int)
	next = func(i int) {
		if i == len(row) {
			see(row)
			return
		}
		for j := i; j < len(row); j++ {
			row[i], row[j] = row[j], row[i]
			next(i + 1)
			row[i], row[j] = row[j], row[i]
		}
	}
	next(0)
}

func TestHe1AheadByHand(t *testing.T) {
	for _, c := range []struct{ a, b heap.Item }{
		{heap.Item{Key: 3}, heap.Item{Key: 4}}, {item(3, 9), item(4, 1)}, {item(3, 1), item(4, 9)}, {item(-1, 9), item(0, 1)}, {item(-2, 5), item(-1, 5)},
		{item(3, 1), item(3, 2)}, {item(0, 1), item(0, 2)}, {item(-3, 1), item(-3, 2)}, {item(topTick, 255), item(topTick, 256)},
		{heap.Item{Key: 3}, heap.Item{Key: 3, End: api.End{Port: 1}}}, {heap.Item{Key: 3, End: end(four(1), 9)}, heap.Item{Key: 3, End: end(four(1), 10)}}, {heap.Item{Key: 3, End: end(four(1), 9)}, heap.Item{Key: 3, End: end(four(2), 1)}},
		{heap.Item{End: end(four(top), topPort)}, heap.Item{End: end(six(0, 0), 1)}}, {heap.Item{Key: 1, End: end(six(top, top), 1)}, heap.Item{Key: 2, End: end(four(0), 1)}}, {heap.Item{End: end(six(1, 9), 80)}, heap.Item{End: end(six(2, 1), 1)}},
		{heap.Item{Key: math.MinInt}, heap.Item{Key: math.MaxInt}}, {heap.Item{Key: math.MinInt}, heap.Item{}}, {heap.Item{}, heap.Item{Key: math.MaxInt}}, {heap.Item{Key: -2}, heap.Item{Key: math.MaxInt}}, {heap.Item{Key: math.MinInt}, heap.Item{Key: 1}},
	} {
		checkOrder(t, c.a, c.b)
	}
}

// A lesser key decides, however the ends stand.
func TestHe1AheadOfEachPairOfKeys(t *testing.T) {
	for i, a := range keys() {
		for j, b := range keys() {
			checkAhead(t, heap.Item{Key: a}, heap.Item{Key: b}, i < j)
			checkAhead(t, item(a, 1), item(b, 2), i <= j)
			checkAhead(t, item(a, 2), item(b, 1), i < j)
			checkAhead(t, heap.Item{Key: a, End: end(six(top, top), topPort)}, heap.Item{Key: b, End: end(four(0), 1)}, i < j)
		}
	}
}

// Equal keys leave it to the ends, valid or not.
func TestHe1AheadOfEachPairOfEnds(t *testing.T) {
	for i, e := range ends() {
		for j, f := range ends() {
			for _, key := range keys() {
				checkAhead(t, heap.Item{Key: key, End: e}, heap.Item{Key: key, End: f}, i < j)
			}
			checkAhead(t, heap.Item{Key: 4, End: e}, heap.Item{Key: 5, End: f}, true)
			checkAhead(t, heap.Item{Key: 5, End: e}, heap.Item{Key: 4, End: f}, false)
			checkAhead(t, heap.Item{Key: -1, End: e}, heap.Item{End: f}, true)
			checkAhead(t, heap.Item{End: e}, heap.Item{Key: -1, End: f}, false)
		}
	}
}

func TestHe1NoItemIsAheadOfItself(t *testing.T) {
	for _, key := range keys() {
		for _, e := range ends() {
			x := heap.Item{Key: key, End: e}
			checkAhead(t, x, x, false)
		}
	}
}

// Each bit of each number of an end parts two items.
func TestHe1AheadOfEachBit(t *testing.T) {
	for i := range 64 {
		for _, x := range []heap.Item{{}, item(5, 1), {Key: -7, End: end(six(six2001, 1), 80)}} {
			hi, lo, port, key, kind := x, x, x, x, x
			hi.End.Addr.Hi ^= 1 << i
			lo.End.Addr.Lo ^= 1 << i
			port.End.Port ^= 1 << i
			key.Key ^= 1 << i
			kind.End.Addr.V6 = !kind.End.Addr.V6
			for _, other := range []heap.Item{hi, lo, port, key, kind} {
				checkAhead(t, x, other, precedes(x, other))
				checkAhead(t, other, x, precedes(other, x))
			}
		}
	}
}

func TestHe1RightByHand(t *testing.T) {
	for _, h := range [][]heap.Item{
		nil, {}, keyed(5), keyed(math.MaxInt), keyed(1, 1), keyed(1, 2), keyed(1, 1, 1), keyed(1, 2, 3), keyed(1, 3, 2), keyed(1, 5, 2, 6, 7, 3), keyed(0, 9, 1, 10, 11, 2, 3), keyed(1, 2, 9, 3, 4, 10), keyed(-3, -2, -1),
		keyed(math.MinInt, math.MaxInt), keyed(math.MinInt, 0, math.MaxInt, 1), keyed(1, 2, 2, 2, 2, 2, 2, 2, 2), {item(3, 1), item(3, 2), item(3, 3)}, {item(3, 1), item(3, 3), item(3, 2)}, {item(3, 9), item(4, 1), item(4, 2)}, {item(3, 1), item(3, 1), item(3, 1)},
	} {
		checkRight(t, h, true)
	}
	for _, h := range [][]heap.Item{
		keyed(2, 1), keyed(1, 0, 2), keyed(1, 2, 0), keyed(1, 2, 3, 1), keyed(1, 2, 3, 4, 1), keyed(1, 2, 3, 4, 5, 2), keyed(1, 2, 3, 4, 5, 6, 2), keyed(2, 1, 1), keyed(3, 2, 1), keyed(1, 2, 3, 4, 5, 6, 7, 3), keyed(1, 2, 3, 4, 5, 6, 7, 8, 3),
		keyed(0, -1), keyed(math.MaxInt, math.MinInt), keyed(1, math.MinInt), keyed(0, 1, -1, 2), {item(3, 2), item(3, 1)}, {item(3, 2), item(4, 1), item(3, 1)}, {item(3, 1), item(3, 3), item(3, 2), item(3, 2)}, {{End: end(six(0, 0), 1)}, {End: end(four(1), 1)}}, {{End: end(four(1), 2)}, {End: end(four(1), 1)}},
	} {
		checkRight(t, h, false)
	}
}

// One item in the wrong place is found wherever it stands, whatever stands below it.
func TestHe1RightOfOneWrongItem(t *testing.T) {
	for _, size := range []int{2, 3, 4, 5, 6, 7, 8, 9, 15, 16, 17, 31, 32, 33, 64, 127, 128} {
		for i := range size {
			h := apart(size)
			for k := range h {
				h[k].Key = 10
			}
			checkRight(t, h, true)
			h[i].Key = 9
			checkRight(t, h, i == 0)
			h[i].Key = 11
			checkRight(t, h, 2*i+1 >= size)
			h[i].Key, h[i].End = 10, end(four(0), 80)
			checkRight(t, h, i == 0)
			h[i].End = end(six(0, 0), 80)
			checkRight(t, h, 2*i+1 >= size)
		}
	}
}

func TestHe1RightOfListsInOrder(t *testing.T) {
	for _, size := range []int{0, 1, 2, 3, 8, 100, topBook - 1, topBook, topBook + 1, 1 << 16} {
		h := apart(size)
		checkRight(t, h, true)
		slices.Reverse(h)
		checkRight(t, h, size < 2)
		checkRight(t, keyed(make([]int, size)...), true)
	}
}

func TestHe1ExampleOfTheChapter(t *testing.T) {
	h := heap.Make(keyed(5, 3, 4))
	x, rest, ok := heap.Pop(h)
	if x.Key != 3 || !ok || !sameItems(rest, keyed(4, 5)) {
		t.Fatalf("Pop of Make of 5, 3, 4 is %+v, %+v, %v", x, rest, ok)
	}
}

func TestHe1MakeAndSortedOfNothing(t *testing.T) {
	for _, l := range [][]heap.Item{nil, {}} {
		if h := heap.Make(l); len(h) != 0 {
			t.Fatalf("Make of nothing is %+v", h)
		}
		if row := heap.Sorted(l); len(row) != 0 {
			t.Fatalf("Sorted of nothing is %+v", row)
		}
	}
}

func TestHe1SortedByHand(t *testing.T) {
	for _, c := range []struct{ l, want []heap.Item }{
		{keyed(5), keyed(5)}, {keyed(5, 3, 4), keyed(3, 4, 5)}, {keyed(1, 2, 3), keyed(1, 2, 3)}, {keyed(3, 2, 1), keyed(1, 2, 3)}, {keyed(2, 1, 2, 1), keyed(1, 1, 2, 2)}, {keyed(0, -1, 1), keyed(-1, 0, 1)},
		{keyed(math.MaxInt, 0, math.MinInt, -1), keyed(math.MinInt, -1, 0, math.MaxInt)}, {keyed(topTick, topTick-1, topTick+1, -topTick), keyed(-topTick, topTick-1, topTick, topTick+1)},
		{[]heap.Item{item(3, 2), item(2, 9), item(3, 1)}, []heap.Item{item(2, 9), item(3, 1), item(3, 2)}},
		{[]heap.Item{{Key: 1, End: end(six(0, 0), 1)}, {Key: 1, End: end(four(top), 1)}, {Key: 1, End: end(four(top), 0)}, {Key: 0, End: end(six(top, top), 9)}}, []heap.Item{{Key: 0, End: end(six(top, top), 9)}, {Key: 1, End: end(four(top), 0)}, {Key: 1, End: end(four(top), 1)}, {Key: 1, End: end(six(0, 0), 1)}}},
	} {
		checkSorted(t, c.l, c.want)
	}
}

// Items stay whole: each field of each goes with the others.
func TestHe1SortedOfAllEndsAndKeys(t *testing.T) {
	var l []heap.Item
	for _, key := range keys() {
		for _, e := range ends() {
			l = append(l, heap.Item{Key: key, End: e})
		}
	}
	state := uint64(3)
	for range 5 {
		row := shuffled(l, &state)
		checkSorted(t, row, l)
		checkMake(t, row)
	}
	slices.Reverse(l)
	checkMake(t, l)
	checkPopped(t, heap.Make(l), arranged(l))
}

func TestHe1MakeOfLongLists(t *testing.T) {
	state := uint64(5)
	for _, size := range []int{63, 64, 65, 255, 256, 257, topBook - 1, topBook, topBook + 1, 1<<16 - 1, 1 << 16, 1<<16 + 1} {
		for _, l := range [][]heap.Item{apart(size), shuffled(apart(size), &state), drawn(size, 7, &state), keyed(make([]int, size)...)} {
			checkMake(t, l)
			checkSorted(t, l, arranged(l))
			slices.Reverse(l)
			checkMake(t, l)
			checkSorted(t, l, arranged(l))
		}
	}
}

// No answer shares memory with what was handed in, nor with another answer.
func TestHe1AnswersNewMemory(t *testing.T) {
	for size := range 20 {
		for _, l := range [][]heap.Item{apart(size), keyed(make([]int, size)...)} {
			before := slices.Clone(l)
			for _, ask := range []func([]heap.Item) []heap.Item{heap.Make, heap.Sorted} {
				a, b := ask(l), ask(l)
				for i := range a {
					a[i] = heap.Item{Key: -5}
				}
				if !slices.Equal(l, before) || !sameItems(b, before) {
					t.Fatalf("a changed answer changes %+v to %+v or %+v", before, l, b)
				}
				_ = append(a, heap.Item{Key: -6})
				for i := range l {
					l[i] = heap.Item{Key: -7}
				}
				if !sameItems(b, before) {
					t.Fatalf("a changed list changes its answer to %+v", b)
				}
				copy(l, before)
			}
		}
	}
}

func TestHe2PushByHand(t *testing.T) {
	for _, h := range [][]heap.Item{
		nil, {}, keyed(5), keyed(1, 2), keyed(1, 1, 1), keyed(1, 5, 2, 6, 7, 3), keyed(0, 9, 1, 10, 11, 2, 3), keyed(math.MinInt, math.MaxInt), keyed(math.MinInt), keyed(math.MaxInt),
		{item(3, 2), item(3, 4), item(3, 6)}, {item(3, 5), item(4, 1), item(4, 2), item(4, 3)}, {{End: end(six(0, 0), 1)}, {End: end(six(0, 1), 1)}},
	} {
		for _, key := range keys() {
			checkPush(t, h, heap.Item{Key: key})
			checkPush(t, h, item(key, 3))
		}
		for _, e := range ends() {
			checkPush(t, h, heap.Item{Key: 3, End: e})
			checkPush(t, h, heap.Item{End: e})
		}
	}
}

// An item that comes rises to where it belongs: here to each place above the last one.
func TestHe2PushToEachPlace(t *testing.T) {
	for size := range 70 {
		h := make([]heap.Item, size)
		for i := range h {
			h[i] = item(10*(i+1), 5)
		}
		for i := range size + 1 {
			for _, key := range []int{10*i - 1, 10 * i, 10*i + 1} {
				for _, n := range []uint64{4, 5, 6} {
					checkPush(t, h, item(key, n))
				}
			}
		}
	}
}

func TestHe2PopByHand(t *testing.T) {
	for _, h := range [][]heap.Item{
		keyed(5), keyed(0), keyed(-5), keyed(math.MinInt), keyed(math.MaxInt), keyed(1, 2), keyed(1, 1), keyed(1, 2, 3), keyed(1, 3, 2), keyed(1, 1, 1), keyed(1, 5, 2, 6, 7, 3), keyed(0, 9, 1, 10, 11, 2, 3), keyed(1, 2, 9, 3, 4, 10), keyed(1, 2, 3, 2, 2, 3, 3),
		keyed(math.MinInt, 0, math.MaxInt), keyed(math.MinInt, math.MinInt, math.MaxInt, math.MaxInt), {{}}, {{}, {}}, {item(3, 9), item(4, 1), item(4, 2)}, {item(3, 1), item(3, 3), item(3, 2), item(3, 4)}, {{End: end(four(top), 1)}, {End: end(six(0, 0), 1)}, {End: end(six(0, 0), 2)}},
	} {
		checkPop(t, h)
	}
	x, rest, ok := heap.Pop(keyed(7))
	if x != (heap.Item{Key: 7}) || len(rest) != 0 || !ok {
		t.Fatalf("Pop of one is %+v, %+v, %v", x, rest, ok)
	}
}

func TestHe2PopOfNothing(t *testing.T) {
	checkNothing(t, nil)
	checkNothing(t, []heap.Item{})
	checkNothing(t, keyed(5, 6)[:0])
	checkNothing(t, heap.Make(nil))
	_, rest, _ := heap.Pop(heap.Push(nil, item(5, 5)))
	checkNothing(t, rest)
}

// The item that takes the first one's place sinks to where it belongs, to the left and to the right.
func TestHe2PopSinksToEachPlace(t *testing.T) {
	for size := 1; size < 40; size++ {
		for last := range size + 1 {
			h := make([]heap.Item, size+1)
			for i := range h {
				h[i] = item(10*i, 5)
			}
			h[size].Key = 10*last + 1
			for i := size; i > 0 && precedes(h[i], h[(i-1)/2]); i = (i - 1) / 2 {
				h[i], h[(i-1)/2] = h[(i-1)/2], h[i]
			}
			checkPop(t, h)
			checkPopped(t, h, arranged(h))
			mirror(h)
			if heaped(h) {
				checkPop(t, h)
				checkPopped(t, h, arranged(h))
			}
		}
	}
}

// mirror swaps the two items below each one, wherever both are there.
func mirror(h []heap.Item) {
	for low := 1; 2*low < len(h); low = 2*low + 1 {
		slices.Reverse(h[low : 2*low+1])
	}
}

func TestHe2PushAndPopOfLongHeaps(t *testing.T) {
	state := uint64(7)
	for _, size := range []int{topBook - 1, topBook, topBook + 1, 1<<16 - 1, 1 << 16} {
		for _, h := range [][]heap.Item{apart(size), heap.Make(drawn(size, 9, &state)), keyed(make([]int, size)...)} {
			checkPop(t, h)
			for _, x := range []heap.Item{{}, {Key: math.MinInt}, {Key: math.MaxInt}, h[size-1], h[size/2], item(size/4, 5)} {
				checkPush(t, h, x)
			}
		}
	}
}

// What is pushed to one heap, twice, does not mix.
func TestHe2AnswersNewMemory(t *testing.T) {
	for size := 1; size < 40; size++ {
		h := apart(size)
		a, b := heap.Push(h, item(-1, 0)), heap.Push(h, item(-2, 0))
		if !sameItems(a, append(apart(size), item(-1, 0))) || !sameItems(b, append(apart(size), item(-2, 0))) {
			t.Fatalf("two items pushed to one heap of %d give %+v and %+v", size, a, b)
		}
		_, rest, _ := heap.Pop(h)
		_, other, _ := heap.Pop(h)
		for _, l := range [][]heap.Item{a, b, rest} {
			_ = append(l, item(-9, 9))
			for i := range l {
				l[i] = item(-8, 8)
			}
		}
		if !slices.Equal(h, apart(size)) || !sameItems(other, apart(size)[1:]) {
			t.Fatalf("changed answers change %+v or %+v", h, other)
		}
		for i := range h {
			h[i] = item(-7, 7)
		}
		if !sameItems(other, apart(size)[1:]) {
			t.Fatalf("a changed heap changes its answer to %+v", other)
		}
	}
}

// With spare room behind the list, nothing is written there either.
func TestHe2NothingBehindTheListIsWritten(t *testing.T) {
	for size := range 20 {
		room := make([]heap.Item, size, size+8)
		copy(room, apart(size))
		heap.Push(room, item(-1, 0))
		heap.Pop(room)
		heap.Make(room)
		heap.Sorted(room)
		for i, x := range room[:size+8] {
			if i < size && x != apart(size)[i] || i >= size && x != (heap.Item{}) {
				t.Fatalf("at %d of %d there is %+v", i, size, x)
			}
		}
	}
}

// Of other lists only is promised that the calls return.
func TestHe2OtherListsReturn(t *testing.T) {
	state := uint64(11)
	for size := range 60 {
		for range 20 {
			checkReturns(t, drawn(size, 9, &state))
		}
		l := apart(size)
		slices.Reverse(l)
		checkReturns(t, l)
		for len(l) > 0 {
			var ok bool
			if _, l, ok = heap.Pop(l); !ok {
				t.Fatal("Pop of some items is false")
			}
		}
	}
	l := apart(1 << 16)
	slices.Reverse(l)
	heap.Pop(l)
	heap.Push(l, heap.Item{Key: -1})
}

func TestHe3PopsInOrder(t *testing.T) {
	state := uint64(13)
	for size := range 70 {
		for range 12 {
			for _, l := range [][]heap.Item{drawn(size, 3, &state), drawn(size, 1000, &state), shuffled(apart(size), &state)} {
				h := heap.Make(l)
				checkPopped(t, h, arranged(l))
				checkSorted(t, h, arranged(l))
			}
		}
	}
	l := drawn(topBook, 300, &state)
	checkPopped(t, heap.Make(l), arranged(l))
}

// A heap that was pushed together gives its items in the same order as one that was made.
func TestHe3PopsInOrderWhatWasPushed(t *testing.T) {
	state := uint64(17)
	for size := range 70 {
		for _, l := range [][]heap.Item{drawn(size, 3, &state), drawn(size, 1000, &state), apart(size), shuffled(apart(size), &state)} {
			var h []heap.Item
			for _, x := range l {
				h = heap.Push(h, x)
			}
			checkRight(t, h, true)
			checkPopped(t, h, arranged(l))
		}
	}
}

// A row that is kept in order says what comes out, however pushes and pops are mixed.
func TestHe3PushesAndPopsMixed(t *testing.T) {
	state := uint64(19)
	for range 60 {
		var h, row []heap.Item
		for range 300 {
			if draw(&state)%5 < 3 {
				x := drawn(1, 12, &state)[0]
				h, row = heap.Push(h, x), arranged(append(row, x))
			} else if len(row) == 0 {
				checkNothing(t, h)
			} else {
				checkPop(t, h)
				_, h, _ = heap.Pop(h)
				row = row[1:]
			}
			if !heaped(h) || !sameItems(h, row) {
				t.Fatalf("the heap is %+v, not one of %+v", h, row)
			}
		}
		checkPopped(t, h, row)
	}
}

func TestHe3AllShortLists(t *testing.T) {
	eachFew(5, func(l []heap.Item) { checkList(t, l) })
}

func TestHe3AllRows(t *testing.T) {
	for _, l := range [][]heap.Item{apart(7), keyed(1, 1, 2, 2, 3, 3, 3), {item(1, 2), item(1, 1), item(2, 1), item(2, 2), {Key: 1, End: end(six(0, 0), 1)}, item(1, 1), item(0, 9)}} {
		eachRow(l, func(row []heap.Item) { checkList(t, row) })
	}
}

// All heaps of eight different items, and all other rows of them.
func TestHe3AllRowsOfEight(t *testing.T) {
	eachRow(apart(8), func(row []heap.Item) {
		checkRight(t, row, heaped(row))
		checkMake(t, row)
		if heaped(row) {
			checkPop(t, row)
			for i := range 9 {
				checkPush(t, row, item(i/2, uint64(i)))
			}
		}
	})
}

func TestHe3FromManyGoroutines(t *testing.T) {
	state := uint64(23)
	l := drawn(300, 50, &state)
	want, h := arranged(l), heap.Make(l)
	var all sync.WaitGroup
	for n := range 16 {
		all.Go(func() {
			x := item(n, uint64(n))
			for range 20 {
				own := heap.Push(h, x)
				first, rest, ok := heap.Pop(h)
				if !sameItems(own, append(slices.Clone(l), x)) || first != want[0] || !ok || !sameItems(rest, want[1:]) {
					t.Errorf("goroutine %d gets %+v, %+v", n, own, first)
				}
				if !heap.Right(h) || !slices.Equal(heap.Sorted(l), want) || !sameItems(heap.Make(l), want) {
					t.Errorf("goroutine %d finds another heap", n)
				}
			}
		})
	}
	all.Wait()
}
