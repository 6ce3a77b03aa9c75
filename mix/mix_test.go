package mix_test

import (
	"fmt"
	"math"
	"math/big"
	"math/bits"
	"slices"
	"testing"

	"doorman/addr"
	"doorman/api"
	"doorman/cidr"
	"doorman/mix"
)

const (
	golden = 0x9e3779b97f4a7c15
	// sunken is the number that becomes 0 if golden is added to it.
	sunken = 1<<64 - golden
	top    = math.MaxUint64
	widest = 1 << 31
)

// numbers are ordinary ones, each power of two with its neighbours, each number whose low bits are 0, the limits, and such as lie beside what is added.
func numbers() []uint64 {
	l := []uint64{0, top, top - 1, 5, 7, 10, 97, 12345, 1234567, golden, golden - 1, golden + 1, sunken, sunken - 1, sunken + 1, 0xbf58476d1ce4e5b9, 0x94d049bb133111eb, 0x123456789abcdef0, 0xaaaaaaaaaaaaaaaa, 0x5555555555555555}
	for i := range 64 {
		p := uint64(1) << i
		l = append(l, p-1, p, p+1, -p, -p-1, golden<<i, golden>>i)
	}
	return l
}

// few is short enough for all lists of three of its numbers.
func few() []uint64 {
	return []uint64{0, 1, 2, 5, 1 << 31, 1<<32 - 1, 1 << 32, 1 << 63, top, golden, sunken, 0x123456789abcdef0}
}

// lists are of each length up to some, made of rising, equal, extreme and ordinary numbers.
func lists() [][]uint64 {
	l := [][]uint64{nil, {}}
	for _, a := range few() {
		l = append(l, []uint64{a})
		for _, b := range few() {
			l = append(l, []uint64{a, b})
			for _, c := range few() {
				l = append(l, []uint64{a, b, c})
			}
		}
	}
	for n := 4; n <= 70; n++ {
		same := make([]uint64, n)
		rising := make([]uint64, n)
		for i := range rising {
			rising[i] = uint64(i)
		}
		l = append(l, same, rising, numbers()[:n], slices.Repeat([]uint64{top}, n))
	}
	return l
}

func large(n uint64) *big.Int { return new(big.Int).SetUint64(n) }

// wrapped is a number modulo 2^64, and never negative.
func wrapped(n *big.Int) *big.Int { return n.Mod(n, new(big.Int).Lsh(big.NewInt(1), 64)) }

// halved is a number divided by 2 so often, rounded down.
func halved(n *big.Int, often int) *big.Int {
	return new(big.Int).Div(n, new(big.Int).Exp(big.NewInt(2), big.NewInt(int64(often)), nil))
}

func step(n *big.Int, often int, times uint64) *big.Int {
	n = new(big.Int).Xor(n, halved(n, often))
	return wrapped(n.Mul(n, large(times)))
}

// one says with numbers of any length what One is to be.
func one(n *big.Int) *big.Int {
	n = step(n, 30, 0xbf58476d1ce4e5b9)
	n = step(n, 27, 0x94d049bb133111eb)
	return new(big.Int).Xor(n, halved(n, 31))
}

func oneAbove(n uint64) *big.Int { return one(wrapped(new(big.Int).Add(large(n), large(golden)))) }

// turned has the first 7 of the 64 bits at its end.
func turned(n *big.Int) *big.Int {
	d := fmt.Sprintf("%064b", n)
	n, _ = new(big.Int).SetString(d[7:]+d[:7], 2)
	return n
}

// of says with numbers of any length what Of is to be.
func of(key uint64, l []uint64) uint64 {
	h := oneAbove(key)
	for _, x := range l {
		h = one(new(big.Int).Xor(turned(h), oneAbove(x)))
	}
	return h.Uint64()
}

// below says with numbers of any length what Below is to be.
func below(h uint64, n int) int {
	if n < 1 || n > 2147483648 {
		return 0
	}
	product := new(big.Int).Mul(halved(large(h), 32), big.NewInt(int64(n)))
	return int(halved(product, 32).Int64())
}

// back undoes an exclusive or of a number with itself, shifted.
func back(n uint64, shift int) uint64 {
	x := n
	for range 64 {
		x = n ^ x>>shift
	}
	return x
}

// inverse is the number that has the inverse product: the wanted one modulo 2^64.
func inverse(n uint64) uint64 {
	m := new(big.Int).ModInverse(large(n), new(big.Int).Lsh(big.NewInt(1), 64))
	return m.Uint64()
}

// undone is the number of which One makes the given one.
func undone(n uint64) uint64 {
	n = back(n, 31) * inverse(0x94d049bb133111eb)
	n = back(n, 27) * inverse(0xbf58476d1ce4e5b9)
	return back(n, 30)
}

func checkOne(t *testing.T, x, want uint64) {
	t.Helper()
	if got := mix.One(x); got != want {
		t.Fatalf("One(%#x) is %#x, not %#x", x, got, want)
	}
}

func checkOf(t *testing.T, key uint64, l []uint64, want uint64) {
	t.Helper()
	if got := mix.Of(key, l...); got != want {
		t.Fatalf("Of(%#x, %#x) is %#x, not %#x", key, l, got, want)
	}
}

func checkNet(t *testing.T, key uint64, n api.Net, want uint64) {
	t.Helper()
	if got := mix.Net(key, n); got != want {
		t.Fatalf("Net(%#x, %+v) is %#x, not %#x", key, n, got, want)
	}
}

func checkBelow(t *testing.T, h uint64, n, want int) {
	t.Helper()
	if got := mix.Below(h, n); got != want {
		t.Fatalf("Below(%#x, %d) is %d, not %d", h, n, got, want)
	}
}

func net(six bool, hi, lo uint64, bits int) api.Net {
	return api.Net{Addr: api.Addr{V6: six, Hi: hi, Lo: lo}, Bits: bits}
}

func TestMi1OneByHand(t *testing.T) {
	for _, c := range [][2]uint64{
		{0, 0}, {1, 0x5692161d100b05e5}, {2, 0xdbd238973a2b148a}, {5, 0xb6bf613dbebb45dc},
		{1 << 27, 0xf5e56547bf03e35f}, {1<<30 - 1, 0x70a9bd435b8ef166}, {1 << 30, 0x2ba0091cc9e3ceff}, {1 << 31, 0xec105bf588587c9f}, {1 << 32, 0xd820b7e910b0f93f}, {1 << 63, 0x25c26ea579cea98a},
		{top, 0xb4d055fcf2cbbd7b}, {top - 1, 0xda26e52fa3730902}, {golden, 0xe220a8397b1dcdaf}, {sunken, 0x336503c6b835bec0}, {0x123456789abcdef0, 0x9629f58e8ec5b906},
	} {
		checkOne(t, c[0], c[1])
	}
}

// One is the end of a well-known generator of numbers, whose first ones are published.
func TestMi1OneOfTheKnownRow(t *testing.T) {
	for _, c := range []struct {
		start uint64
		row   []uint64
	}{
		{0, []uint64{0xe220a8397b1dcdaf, 0x6e789e6aa1b965f4, 0x06c45d188009454f, 0xf88bb8a8724c81ec, 0x1b39896a51a8749b}},
		{1234567, []uint64{6457827717110365317, 3203168211198807973, 9817491932198370423, 4593380528125082431, 16408922859458223821}},
	} {
		x := c.start
		for _, want := range c.row {
			x += golden
			checkOne(t, x, want)
		}
	}
}

func TestMi1OneOfMany(t *testing.T) {
	for _, x := range numbers() {
		checkOne(t, x, one(large(x)).Uint64())
		for i := range 64 {
			checkOne(t, x^1<<i, one(large(x^1<<i)).Uint64())
		}
	}
	for x := range uint64(5000) {
		checkOne(t, x, one(large(x)).Uint64())
		checkOne(t, -x, one(large(-x)).Uint64())
		checkOne(t, mix.One(x), one(large(mix.One(x))).Uint64())
	}
}

func TestMi1OfByHand(t *testing.T) {
	for _, c := range []struct {
		key  uint64
		l    []uint64
		want uint64
	}{
		{0, nil, 0xe220a8397b1dcdaf}, {0, []uint64{}, 0xe220a8397b1dcdaf}, {1, nil, 0x910a2dec89025cc1}, {top, nil, 0xe4d971771b652c20}, {sunken, nil, 0}, {golden, nil, 0x6e789e6aa1b965f4},
		{0, []uint64{0}, 0x4196a58e8e78a3ec}, {1, []uint64{0}, 0x4a268cdebfbf729c}, {0, []uint64{1}, 0x7ffb3f9dd687056e}, {0, []uint64{sunken}, 0x2384c58387fb1fdf}, {7, []uint64{0}, 0xbc81b6cd05d9a529},
		{0, []uint64{0, 0}, 0x0727edb1cf16c3f6}, {1, []uint64{2, 3}, 0x08273012c9bb8d18}, {1, []uint64{3, 2}, 0x66c93334b3b6d68b},
		{top, []uint64{top, top, top}, 0x58f52f8e36570c53}, {42, []uint64{10, 20, 30, 40}, 0x03d027738830cd0d}, {0x123456789abcdef0, []uint64{1 << 63, 5, 0, top}, 0xac2bc13b0bffb6c4},
	} {
		checkOf(t, c.key, c.l, c.want)
	}
	if mix.Of(42, 10, 20, 30, 40) != 0x03d027738830cd0d || mix.Of(1, 2, 3) != 0x08273012c9bb8d18 || mix.Of(0) != 0xe220a8397b1dcdaf {
		t.Fatal("Of is another one if its numbers are given one by one")
	}
}

func TestMi1OfMany(t *testing.T) {
	for _, key := range []uint64{0, 1, top, sunken, 0xfeedfacecafebeef} {
		for _, l := range lists() {
			checkOf(t, key, l, of(key, l))
		}
	}
	for _, x := range numbers() {
		checkOf(t, x, nil, of(x, nil))
		checkOf(t, x, []uint64{x}, of(x, []uint64{x}))
		checkOf(t, 5, []uint64{x}, of(5, []uint64{x}))
		checkOf(t, x, []uint64{1, 2, 3, 4}, of(x, []uint64{1, 2, 3, 4}))
	}
}

// Each number goes on from what those ahead of it left: the key, the order, and how many there are, count.
func TestMi1OfGoesOn(t *testing.T) {
	for _, l := range lists() {
		h := mix.One(9 + golden)
		for i, x := range l {
			h = mix.One(bits.RotateLeft64(h, 7) ^ mix.One(x+golden))
			checkOf(t, 9, l[:i+1], h)
		}
	}
}

func TestMi1OfLeavesItsListAlone(t *testing.T) {
	for _, l := range lists() {
		own := append(slices.Clone(l), 77, 78)
		before := slices.Clone(own)
		first := mix.Of(3, own[:len(l)]...)
		if !slices.Equal(own, before) {
			t.Fatalf("Of changed %#x to %#x", before, own)
		}
		checkOf(t, 3, own[:len(l)], first)
	}
}

func TestMi2NetByHand(t *testing.T) {
	for _, c := range []struct {
		key  uint64
		n    api.Net
		want uint64
	}{
		{0, net(false, 0, 0, 0), 0x25842324c81b0f13}, {0, net(true, 0, 0, 0), 0xefbdc3ac927025b2},
		{1, net(false, 0, 0x0a000000, 8), 0x97bfc41afd1ef6e8}, {1, net(true, 0, 0x0a000000, 8), 0x9e82834e6dcfe950}, {1, net(false, 0x0a000000, 0, 8), 0xee95f31ed9f19591}, {1, net(false, 0, 0xffffffff, 32), 0xda4a4bd123aa6baf},
		{7, net(true, 0x20010db800000000, 0, 32), 0xdc62d7c5699f387f}, {top, net(true, top, top, 128), 0x47c33bce01b0d3a9},
		{1, net(false, 0, 0, -1), 0xc20e6de1acbdc09c}, {1, net(false, 0, 0, math.MinInt), 0xa7e87c5ef158eb6f}, {1, net(false, 0, 0, math.MaxInt), 0x16665714cd6ee77b}, {5, net(false, top, top, -8), 0x588a226a1d329a0c},
	} {
		checkNet(t, c.key, c.n, c.want)
	}
}

// nets are valid ones and such as are not, of both kinds with the same numbers.
func nets() []api.Net {
	var l []api.Net
	for _, hi := range few() {
		for _, lo := range few() {
			for _, b := range []int{math.MinInt, -1 << 32, -65, -1, 0, 1, 7, 8, 31, 32, 33, 127, 128, 129, 255, 256, 1 << 32, math.MaxInt} {
				l = append(l, net(false, hi, lo, b), net(true, hi, lo, b))
			}
		}
	}
	return l
}

func TestMi2NetOfMany(t *testing.T) {
	for _, key := range []uint64{0, 5, sunken, top} {
		for _, n := range nets() {
			kind := uint64(4)
			if n.Addr.V6 {
				kind = 6
			}
			size := wrapped(big.NewInt(int64(n.Bits)))
			checkNet(t, key, n, of(key, []uint64{kind, n.Addr.Hi, n.Addr.Lo, size.Uint64()}))
		}
	}
}

func TestMi2NetOfEachNumberOfBits(t *testing.T) {
	for b := -300; b <= 300; b++ {
		checkNet(t, 11, net(false, 0, 0x0a000000, b), of(11, []uint64{4, 0, 0x0a000000, uint64(int64(b))}))
		checkNet(t, 11, net(true, 0x20010db800000000, 1, b), of(11, []uint64{6, 0x20010db800000000, 1, uint64(int64(b))}))
	}
}

// Subnets that a peer may have are told apart, and so are keys.
func TestMi2NetOfSubnets(t *testing.T) {
	seen := map[uint64]api.Net{}
	note := func(key uint64, n api.Net) {
		h := mix.Net(key, n)
		if old, ok := seen[h]; ok {
			t.Fatalf("%+v and %+v are mixed to the same number", old, n)
		}
		seen[h] = n
	}
	for i := range uint64(2000) {
		for key := range uint64(3) {
			note(key, cidr.Full(addr.V4(uint32(i))))
			note(key, cidr.Full(addr.V6(i, 0)))
			note(key, cidr.Full(addr.V6(0, i|1<<48)))
		}
	}
	for b := range 129 {
		note(9, net(true, 0, 0, b))
		note(9, net(false, 0, 0, b))
	}
}

func TestMi2BelowByHand(t *testing.T) {
	for _, c := range []struct {
		h       uint64
		n, want int
	}{
		{1 << 63, 10, 5}, {1 << 63, 3, 1}, {1 << 63, 2, 1}, {1<<63 - 1, 2, 0}, {1 << 63, 1, 0}, {1 << 62, 8, 2}, {3 << 62, 4, 3}, {3<<62 - 1, 4, 2},
		{0, 1, 0}, {0, widest, 0}, {top, 1, 0}, {top, 2, 1}, {top, 8, 7}, {top, 1000, 999}, {top, widest - 1, widest - 2}, {top, widest, widest - 1},
		{1 << 32, widest, 0}, {2 << 32, widest, 1}, {3 << 32, widest, 1}, {4 << 32, widest, 2}, {1<<33 - 1, widest, 0}, {1<<32 - 1, widest, 0}, {1<<32 - 1, 1000, 0}, {1 << 63, widest, widest / 2},
		{top, 0, 0}, {top, -1, 0}, {top, -8, 0}, {top, math.MinInt, 0}, {top, math.MinInt + 1, 0}, {top, -widest, 0}, {5, 0, 0}, {1 << 63, -10, 0},
		{top, widest + 1, 0}, {top, widest + 2, 0}, {top, 1<<32 - 1, 0}, {top, 1 << 32, 0}, {top, 1<<32 + 1, 0}, {top, 1<<32 + 8, 0}, {top, 1 << 62, 0}, {top, math.MaxInt, 0}, {1 << 63, 1<<40 + 10, 0},
	} {
		checkBelow(t, c.h, c.n, c.want)
	}
}

// bounds are numbers from 1 to 2^31, and such as lie beside.
func bounds() []int {
	l := []int{math.MinInt, math.MinInt + 1, math.MaxInt, math.MaxInt - 1, 3, 5, 6, 7, 10, 100, 1000, 65535, 65536, 65537, 1000003}
	for i := range 63 {
		p := 1 << i
		l = append(l, p-1, p, p+1, -p, 1-p, -1-p)
	}
	return l
}

func TestMi2BelowOfMany(t *testing.T) {
	l := numbers()
	for x := range uint64(300) {
		l = append(l, mix.One(x))
	}
	for _, h := range l {
		for _, n := range bounds() {
			checkBelow(t, h, n, below(h, n))
		}
	}
}

// Only the high half of a number decides.
func TestMi2BelowOfTheHighHalf(t *testing.T) {
	for _, h := range numbers() {
		for _, n := range bounds() {
			want := mix.Below(h, n)
			checkBelow(t, h|math.MaxUint32, n, want)
			checkBelow(t, h>>32<<32, n, want)
		}
	}
}

func TestMi3OneOfDifferentNumbersIsDifferent(t *testing.T) {
	seen := map[uint64]uint64{}
	note := func(x uint64) {
		h := mix.One(x)
		if old, ok := seen[h]; ok && old != x {
			t.Fatalf("One of %#x and of %#x is %#x", old, x, h)
		}
		seen[h] = x
	}
	for i := range uint64(1 << 16) {
		for _, shift := range []int{0, 16, 32, 48} {
			note(i << shift)
			note(^(i << shift))
		}
	}
	for _, x := range numbers() {
		note(x)
	}
	if len(seen) < 8*(1<<16)-100 {
		t.Fatalf("the test itself: %d numbers only", len(seen))
	}
}

// What can be undone is the same for no two numbers; and each number is One of another one.
func TestMi3OneCanBeUndone(t *testing.T) {
	for _, x := range numbers() {
		for i := range 64 {
			y := x ^ 1<<i
			if undone(mix.One(y)) != y {
				t.Fatalf("One(%#x) is undone to %#x", y, undone(mix.One(y)))
			}
			checkOne(t, undone(y), y)
		}
	}
}

func TestMi3OfDiffersByTheLastNumber(t *testing.T) {
	for _, key := range []uint64{0, 1, top, sunken} {
		for _, ahead := range [][]uint64{nil, {0}, {top}, {1, 2}, {sunken, golden, 0}, numbers()[:40]} {
			seen := map[uint64]uint64{}
			for _, x := range append(numbers(), numbers()[1]) {
				for _, y := range []uint64{x, x ^ 1, x ^ 1<<31, x ^ 1<<32, x ^ 1<<57, x ^ 1<<63} {
					h := mix.Of(key, append(slices.Clone(ahead), y)...)
					if old, ok := seen[h]; ok && old != y {
						t.Fatalf("Of(%#x, %#x ..) is %#x for %#x and for %#x", key, ahead, h, old, y)
					}
					seen[h] = y
				}
			}
			if len(seen) < 1500 {
				t.Fatalf("the test itself: %d lists only", len(seen))
			}
		}
	}
}

func TestMi3BelowIsInItsRange(t *testing.T) {
	for _, n := range bounds() {
		if n < 1 || n > widest {
			continue
		}
		for _, h := range numbers() {
			if b := mix.Below(h, n); b < 0 || b >= n {
				t.Fatalf("Below(%#x, %d) is %d", h, n, b)
			}
		}
		checkBelow(t, 0, n, 0)
		checkBelow(t, top, n, n-1)
	}
}

// Each number below a small one is reached, equally often.
func TestMi3BelowReachesEachNumber(t *testing.T) {
	for n := 1; n <= 64; n++ {
		times := make([]int, n)
		for i := range uint64(1 << 12) {
			times[mix.Below(i<<52, n)]++
		}
		if slices.Max(times)-slices.Min(times) > 1 {
			t.Fatalf("Below(.., %d) is each number so often: %v", n, times)
		}
	}
}
