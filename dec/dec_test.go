package dec_test

import (
	"math"
	"math/big"
	"regexp"
	"strconv"
	"strings"
	"testing"

	"doorman/dec"
)

// edges are the first and the last digit of each kind, the bytes beside them, and what other readers of numbers let pass.
const edges = "019afAF/:@G`g-+ _x.\x00\xb0"

// numbers are those at each change of the number of digits, each power of two with its neighbours, and the limits; of both signs.
func numbers() []int {
	l := []int{0, math.MaxInt, math.MaxInt - 1, math.MinInt, math.MinInt + 1, 42, 1234567890, 9876543210, 1020304050607}
	for p := 1; p <= math.MaxInt/10; p *= 10 {
		l = append(l, p-1, p, p+1, 7*p, 10*p-1, 1-p, -p, -p-1)
	}
	for i := range 63 {
		p := 1 << i
		l = append(l, p-1, p, p+1, 1-p, -p, -p-1)
	}
	for n := -1100; n <= 1100; n++ {
		l = append(l, n)
	}
	return l
}

// mosts are bounds: ordinary ones, those of the layers above, the extreme ones, and such as no number reaches.
func mosts() []int {
	return []int{0, 1, 5, 8, 9, 10, 11, 12, 32, 99, 100, 101, 109, 128, 255, 256, 1000, 65535, 1 << 20, 1 << 30, 1 << 40,
		math.MaxInt - 8, math.MaxInt - 7, math.MaxInt - 1, math.MaxInt, -1, -2, -9, -10, -11, -65536, math.MinInt + 1, math.MinInt}
}

// texts are all texts of at most long bytes of a set.
func texts(set string, long int) []string {
	all, last := []string{""}, []string{""}
	for range long {
		var next []string
		for _, s := range last {
			for i := range len(set) {
				next = append(next, s+set[i:i+1])
			}
		}
		all, last = append(all, next...), next
	}
	return all
}

// everyByte is each byte once.
func everyByte() string {
	var b [256]byte
	for i := range len(b) {
		b[i] = byte(i)
	}
	return string(b[:])
}

// number is a text of a number as De1 writes them. (\z, since $ would let a line feed pass elsewhere.)
var number = regexp.MustCompile(`\A(0|[1-9][0-9]*)\z`)

// sixteenth is a text as De2 reads them.
var sixteenth = regexp.MustCompile(`\A[0-9a-fA-F]{1,4}\z`)

// read is what Parse must return.
func read(s string, most int) (int, bool) {
	if !number.MatchString(s) {
		return 0, false
	}
	n, _ := new(big.Int).SetString(s, 10)
	if n.Cmp(big.NewInt(int64(most))) > 0 {
		return 0, false
	}
	return int(n.Int64()), true
}

func checkText(t *testing.T, n int, want string) {
	t.Helper()
	if got := dec.Text(n); got != want {
		t.Fatalf("Text(%d) is %q, not %q", n, got, want)
	}
}

func checkParse(t *testing.T, s string, most, want int, ok bool) {
	t.Helper()
	if got, good := dec.Parse(s, most); got != want || good != ok {
		t.Fatalf("Parse(%.60q, %d) is %d, %v, not %d, %v", s, most, got, good, want, ok)
	}
}

func checkHex(t *testing.T, n int, want string) {
	t.Helper()
	if got := dec.Hex(n); got != want {
		t.Fatalf("Hex(%d) is %q, not %q", n, got, want)
	}
}

func checkParseHex(t *testing.T, s string, want int, ok bool) {
	t.Helper()
	if got, good := dec.ParseHex(s); got != want || good != ok {
		t.Fatalf("ParseHex(%.60q) is %d, %v, not %d, %v", s, got, good, want, ok)
	}
}

func TestDe1TextByHand(t *testing.T) {
	for _, c := range []struct {
		n    int
		want string
	}{
		{0, "0"}, {1, "1"}, {7, "7"}, {9, "9"}, {10, "10"}, {11, "11"}, {99, "99"}, {100, "100"}, {101, "101"}, {1000, "1000"}, {12345, "12345"}, {1020, "1020"},
		{-1, "-1"}, {-9, "-9"}, {-10, "-10"}, {-100, "-100"}, {-12345, "-12345"},
		{65535, "65535"}, {1 << 40, "1099511627776"}, {1<<31 - 1, "2147483647"}, {1 << 31, "2147483648"}, {1 << 32, "4294967296"}, {-1 << 31, "-2147483648"}, {-1 << 32, "-4294967296"},
		{1000000000000000000, "1000000000000000000"}, {999999999999999999, "999999999999999999"},
		{math.MaxInt, "9223372036854775807"}, {math.MaxInt - 1, "9223372036854775806"},
		{math.MinInt, "-9223372036854775808"}, {math.MinInt + 1, "-9223372036854775807"},
	} {
		checkText(t, c.n, c.want)
	}
}

func TestDe1TextOfMany(t *testing.T) {
	for _, n := range numbers() {
		checkText(t, n, strconv.Itoa(n))
	}
	for n := -70000; n <= 70000; n++ {
		checkText(t, n, strconv.Itoa(n))
	}
}

func TestDe1ParseByHand(t *testing.T) {
	for _, c := range []struct {
		s          string
		most, want int
	}{
		{"0", 0, 0}, {"0", 9, 0}, {"0", math.MaxInt, 0}, {"1", 1, 1}, {"5", 9, 5}, {"9", 9, 9}, {"10", 10, 10}, {"12", 12, 12}, {"12", 20, 12},
		{"100", 100, 100}, {"255", 255, 255}, {"128", 128, 128}, {"65535", 65535, 65535}, {"1020", 9999, 1020},
		{"1099511627776", 1 << 40, 1 << 40}, {"4294967296", 1 << 40, 1 << 32},
		{"9223372036854775807", math.MaxInt, math.MaxInt}, {"9223372036854775806", math.MaxInt - 1, math.MaxInt - 1}, {"9223372036854775800", math.MaxInt - 7, math.MaxInt - 7}, {"999999999999999999", math.MaxInt, 999999999999999999},
	} {
		checkParse(t, c.s, c.most, c.want, true)
	}
}

func TestDe1ParseAboveTheMost(t *testing.T) {
	for _, c := range []struct {
		s    string
		most int
	}{
		{"1", 0}, {"9", 8}, {"9", 5}, {"10", 9}, {"13", 12}, {"20", 12}, {"99", 9}, {"100", 99}, {"101", 100}, {"256", 255}, {"260", 255}, {"300", 255}, {"1000", 255}, {"65536", 65535},
		{"1099511627777", 1 << 40}, {"4294967296", 65535}, {"4294967297", 1}, {"18446744073709551617", 5},
		{"9223372036854775807", math.MaxInt - 1}, {"9223372036854775800", math.MaxInt - 8},
		{"9223372036854775808", math.MaxInt}, {"9223372036854775809", math.MaxInt}, {"9223372036854775810", math.MaxInt}, {"10000000000000000000", math.MaxInt},
		{"18446744073709551615", math.MaxInt}, {"18446744073709551616", math.MaxInt}, {"18446744073709551621", math.MaxInt}, {"92233720368547758070", math.MaxInt}, {"36893488147419103233", math.MaxInt},
		{"0", -1}, {"0", -9}, {"0", -10}, {"5", -1}, {"5", -5}, {"0", math.MinInt}, {"1", math.MinInt}, {"9223372036854775807", math.MinInt}, {"-5", -1}, {"-1", -1}, {"-5", -5},
	} {
		checkParse(t, c.s, c.most, 0, false)
	}
}

func TestDe1ParseOfNoText(t *testing.T) {
	for _, s := range []string{
		"", " ", "-", "+", "-0", "+0", "-1", "+1", "--1", "00", "01", "08", "007", "000000000000000000001", " 1", "1 ", "1\n", "\n1", "1\t", "1\x00", "\x001",
		"1_000", "1,000", "1.0", "1e3", "0x1", "0b1", "0o7", "1a", "a", "A", "f", "F", "af", "1f", "/", ":", "1/", "1:", "٣", "1٣", "１", "\xff", "1\xff", "\xb1", "-9223372036854775808",
	} {
		for _, most := range mosts() {
			checkParse(t, s, most, 0, false)
		}
	}
}

func TestDe1ParseOfManyTexts(t *testing.T) {
	for _, s := range append(texts(everyByte(), 2), texts(edges, 3)...) {
		for _, most := range []int{math.MinInt, -1, 0, 8, 9, 10, 11, 90, 99, 101, 190, 255, 65535, math.MaxInt} {
			want, ok := read(s, most)
			checkParse(t, s, most, want, ok)
		}
	}
	for n := range 12000 {
		s := strconv.Itoa(n)
		for _, most := range append(mosts(), n-1, n, n+1) {
			want, ok := read(s, most)
			checkParse(t, s, most, want, ok)
		}
	}
}

// A digit more, a digit changed: numbers that are greater than a bound just so, or so much that an int mistakes them for small ones.
func TestDe1ParseBesideEachBound(t *testing.T) {
	for _, most := range append(numbers(), mosts()...) {
		near := new(big.Int).Sub(big.NewInt(int64(most)), big.NewInt(12))
		for range 25 {
			want, ok := read(near.String(), most)
			checkParse(t, near.String(), most, want, ok)
			near.Add(near, big.NewInt(1))
		}
		for _, shift := range []uint{8, 16, 32, 63, 64, 65, 128} {
			far := new(big.Int).Lsh(big.NewInt(1), shift)
			far.Add(far, big.NewInt(int64(most)))
			want, ok := read(far.String(), most)
			checkParse(t, far.String(), most, want, ok)
		}
		for d := range 10 {
			s := strconv.Itoa(most) + strconv.Itoa(d)
			want, ok := read(s, most)
			checkParse(t, s, most, want, ok)
		}
	}
}

func TestDe1ParseOfLongTexts(t *testing.T) {
	for _, long := range []int{19, 20, 21, 64, 1000, 100000} {
		for _, d := range []string{"0", "1", "9", "a", "-", " "} {
			s := strings.Repeat(d, long)
			for _, most := range mosts() {
				want, ok := read(s, most)
				checkParse(t, s, most, want, ok)
			}
		}
		checkParse(t, strings.Repeat("0", long)+"1", math.MaxInt, 0, false)
	}
}

func TestDe2HexByHand(t *testing.T) {
	for _, c := range []struct {
		n    int
		want string
	}{
		{0, "0"}, {1, "1"}, {9, "9"}, {10, "a"}, {11, "b"}, {12, "c"}, {13, "d"}, {14, "e"}, {15, "f"}, {16, "10"}, {17, "11"}, {160, "a0"}, {255, "ff"}, {256, "100"}, {4095, "fff"}, {4096, "1000"},
		{0x0db8, "db8"}, {0x2001, "2001"}, {0xabcd, "abcd"}, {0xf00d, "f00d"}, {65534, "fffe"}, {65535, "ffff"},
	} {
		checkHex(t, c.n, c.want)
	}
}

func TestDe2HexOfAll(t *testing.T) {
	for n := range 65536 {
		checkHex(t, n, strconv.FormatInt(int64(n), 16))
	}
}

func TestDe2HexOfOtherNumbers(t *testing.T) {
	for _, n := range numbers() {
		if n < 0 || n > 65535 {
			checkHex(t, n, "")
		}
	}
	for _, n := range []int{-1, -15, -16, -65535, -65536, 65536, 65537, 65551, 1<<16 + 255, 1 << 17, 1 << 20, 1<<32 + 5, -1<<32 + 5, 1<<48 + 10, math.MaxInt, math.MinInt, math.MinInt + 10} {
		checkHex(t, n, "")
	}
	for n := 65536; n < 200000; n++ {
		checkHex(t, n, "")
		checkHex(t, 65535-n, "")
	}
}

func TestDe2ParseHexByHand(t *testing.T) {
	for _, c := range []struct {
		s    string
		want int
	}{
		{"0", 0}, {"00", 0}, {"000", 0}, {"0000", 0}, {"1", 1}, {"01", 1}, {"001", 1}, {"0001", 1}, {"9", 9}, {"a", 10}, {"A", 10}, {"f", 15}, {"F", 15}, {"10", 16}, {"010", 16}, {"0010", 16},
		{"ff", 255}, {"FF", 255}, {"fF", 255}, {"Ff", 255}, {"00Ff", 255}, {"db8", 0xdb8}, {"0dB8", 0xdb8}, {"1000", 4096}, {"2001", 0x2001},
		{"abcd", 0xabcd}, {"ABCD", 0xabcd}, {"bcde", 0xbcde}, {"BCDE", 0xbcde}, {"cdef", 0xcdef}, {"CDEF", 0xcdef}, {"1234", 0x1234}, {"5678", 0x5678}, {"6789", 0x6789}, {"9999", 0x9999},
		{"fffe", 65534}, {"ffff", 65535}, {"FFFF", 65535}, {"fFfF", 65535},
	} {
		checkParseHex(t, c.s, c.want, true)
	}
}

func TestDe2ParseHexOfNoText(t *testing.T) {
	for _, s := range []string{
		"", " ", "-", "+", "-1", "+1", "-0", "g", "G", "h", "z", "Z", "@", "`", "/", ":", "0g", "g0", "fffg", "gfff", "0x", "0x1", "0X1", "x1", "1h", " 1", "1 ", "1\n", "\n1", "\x00", "1\x00", "1_0", "1.0", "a:b",
		"00000", "00001", "10000", "0ffff", "fffff", "FFFFF", "12345", "٣", "١", "a٣", "ａ", "\xff", "\xb1", "\xe1", "\xc1", "ff\xff",
	} {
		checkParseHex(t, s, 0, false)
	}
}

func TestDe2ParseHexOfManyTexts(t *testing.T) {
	for _, s := range append(texts(everyByte(), 2), texts(edges, 4)...) {
		n, ok := uint64(0), sixteenth.MatchString(s)
		if ok {
			n, _ = strconv.ParseUint(s, 16, 64)
		}
		checkParseHex(t, s, int(n), ok)
	}
}

func TestDe2ParseHexOfLongTexts(t *testing.T) {
	for _, d := range []string{"0", "1", "f", "F", "g"} {
		for _, long := range []int{5, 6, 7, 8, 9, 15, 16, 17, 32, 256, 257, 260, 65537, 65540} {
			checkParseHex(t, strings.Repeat(d, long), 0, false)
		}
	}
}

// What every place of a text counts, in lower and in upper case and with leading zeros.
func TestDe2ParseHexOfAllNumbers(t *testing.T) {
	for n := range 65536 {
		s := strconv.FormatInt(int64(n), 16)
		for len(s) <= 4 {
			checkParseHex(t, s, n, true)
			checkParseHex(t, strings.ToUpper(s), n, true)
			s = "0" + s
		}
		checkParseHex(t, s, 0, false)
	}
}

func TestDe3ParseReturnsWhatWasWritten(t *testing.T) {
	for _, n := range numbers() {
		if n < 0 {
			checkParse(t, dec.Text(n), math.MaxInt, 0, false)
			continue
		}
		checkParse(t, dec.Text(n), n, n, true)
		checkParse(t, dec.Text(n), math.MaxInt, n, true)
		checkParse(t, dec.Text(n), n-1, 0, false)
	}
}

func TestDe3ParseHexReturnsWhatWasWritten(t *testing.T) {
	for n := range 65536 {
		checkParseHex(t, dec.Hex(n), n, true)
	}
	checkParseHex(t, dec.Hex(65536), 0, false)
	checkParseHex(t, dec.Hex(-1), 0, false)
}

func TestDe3AcceptedTextIsThatOfItsNumber(t *testing.T) {
	accepted := 0
	for _, s := range append(texts(everyByte(), 2), texts(edges, 4)...) {
		if n, ok := dec.Parse(s, math.MaxInt); ok {
			accepted++
			checkText(t, n, s)
		}
	}
	// The numbers from 0 to 99, and those of at most four digits 0, 1 and 9: a Parse that accepts nothing would keep the law.
	if want := 100 + 3 + 2*3 + 2*9 + 2*27; accepted != want {
		t.Fatalf("%d texts were accepted, not %d", accepted, want)
	}
}
