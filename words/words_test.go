package words_test

import (
	"regexp"
	"slices"
	"strconv"
	"strings"
	"testing"

	"doorman/api"
	"doorman/words"
)

const (
	mostBytes = 65536
	mostFeeds = 4096
)

// bytesOf is each byte from a to b once.
func bytesOf(a, b int) string {
	var l []byte
	for c := a; c <= b; c++ {
		l = append(l, byte(c))
	}
	return string(l)
}

// texts are all texts of at most long bytes of a set.
func texts(set string, long int) []string {
	all, last := []string{""}, []string{""}
	for range long {
		var next []string
		for _, s := range last {
			for i := range len(set) {
				next = append(next, s+set[i:i+1])
			}
		}
		all, last = append(all, next...), next
	}
	return all
}

// lists are all lists of at most long of the parts.
func lists(parts []string, long int) [][]string {
	all, last := [][]string{nil}, [][]string{nil}
	for range long {
		var next [][]string
		for _, l := range last {
			for _, s := range parts {
				next = append(next, append(slices.Clone(l), s))
			}
		}
		all, last = append(all, next...), next
	}
	return all
}

// split is what Split must return, byte by byte.
func split(s string, sep byte) []string {
	l, part := []string{}, []byte{}
	for i := range len(s) {
		if s[i] == sep {
			l, part = append(l, string(part)), []byte{}
			continue
		}
		part = append(part, s[i])
	}
	return append(l, string(part))
}

// join is what Join must return, byte by byte.
func join(l []string, sep byte) string {
	var b []byte
	for i, s := range l {
		if i > 0 {
			b = append(b, sep)
		}
		b = append(b, s...)
	}
	return string(b)
}

// wellFormed is a valid text of any length.
var wellFormed = regexp.MustCompile(`\A([\x20-\x7e]*\x0a)*\z`)

// read is what Lines must return.
func read(s string) ([]string, api.Errno) {
	feeds := 0
	for i := range len(s) {
		if s[i] == '\n' {
			feeds++
		}
	}
	if len(s) > mostBytes || feeds > mostFeeds {
		return nil, api.ErrLong
	}
	if !wellFormed.MatchString(s) {
		return nil, api.ErrForm
	}
	return split(s, '\n')[:feeds], api.OK
}

func checkSplit(t *testing.T, s string, sep byte, want ...string) {
	t.Helper()
	if got := words.Split(s, sep); !slices.Equal(got, want) {
		t.Fatalf("Split(%.60q, %q) is %.200q, not %.200q", s, sep, got, want)
	}
}

func checkJoin(t *testing.T, l []string, sep byte, want string) {
	t.Helper()
	if got := words.Join(l, sep); got != want {
		t.Fatalf("Join(%.60q, %q) is %.200q, not %.200q", l, sep, got, want)
	}
}

func checkRow(t *testing.T, want string, l ...string) {
	t.Helper()
	if got := words.Row(l...); got != want {
		t.Fatalf("Row(%.60q) is %.200q, not %.200q", l, got, want)
	}
}

func checkLines(t *testing.T, s string, e api.Errno, want ...string) {
	t.Helper()
	if got, err := words.Lines(s); err != e || !slices.Equal(got, want) {
		t.Fatalf("Lines(%.60q), of %d bytes, is %.200q, %d, not %.200q, %d", s, len(s), got, err, want, e)
	}
}

// inSet counts the bytes of s that are of the set.
func inSet(s, set string) int {
	n := 0
	for i := range len(s) {
		n += strings.Count(set, s[i:i+1])
	}
	return n
}

func TestWd1SplitByHand(t *testing.T) {
	checkSplit(t, "a,,b", ',', "a", "", "b")
	checkSplit(t, "", ',', "")
	checkSplit(t, ",", ',', "", "")
	checkSplit(t, ",,", ',', "", "", "")
	checkSplit(t, "a", ',', "a")
	checkSplit(t, "abc", ',', "abc")
	checkSplit(t, "a,b", ',', "a", "b")
	checkSplit(t, ",a", ',', "", "a")
	checkSplit(t, "a,", ',', "a", "")
	checkSplit(t, ",a,", ',', "", "a", "")
	checkSplit(t, "ab,cde,f", ',', "ab", "cde", "f")
	checkSplit(t, "a,b", ' ', "a,b")
	checkSplit(t, "a,b", 'a', "", ",b")
	checkSplit(t, "aAa", 'A', "a", "a")
	checkSplit(t, "aaa", 'a', "", "", "", "")
	checkSplit(t, "accept 1.2.3.4:80 5", ' ', "accept", "1.2.3.4:80", "5")
	checkSplit(t, "  a  b ", ' ', "", "", "a", "", "b", "")
	checkSplit(t, "1.2.3.4", '.', "1", "2", "3", "4")
	checkSplit(t, "a\nb\r\n\tc\n", '\n', "a", "b\r", "\tc", "")
	checkSplit(t, "a\\nb", '\n', "a\\nb")
	checkSplit(t, "::1", ':', "", "", "1")
}

// No byte is a part of a character here: a byte from 128 on divides like any other.
func TestWd1SplitByAnyByte(t *testing.T) {
	checkSplit(t, "\x00a\x00", 0, "", "a", "")
	checkSplit(t, "a\x00b", '0', "a\x00b")
	checkSplit(t, "a\xffb", 0xff, "a", "b")
	checkSplit(t, "\xff\xfe\xff", 0xff, "", "\xfe", "")
	checkSplit(t, "a\x80b\x7fc", 0x80, "a", "b\x7fc")
	checkSplit(t, "é", 0xc3, "", "\xa9")
	checkSplit(t, "é", 0xa9, "\xc3", "")
	checkSplit(t, "é", 0xe9, "é")
	checkSplit(t, "a\xe9b", 0xe9, "a", "b")
	checkSplit(t, "日本", 0x97, "\xe6", "\xa5本")
	checkSplit(t, "日本", 0x9c, "日\xe6", "\xac")
	checkSplit(t, "\uFFFD", 0xff, "\uFFFD")
	checkSplit(t, "\uFFFD", 0xbf, "\xef", "\xbd")
	all := bytesOf(0, 255)
	for c := range 256 {
		sep := byte(c)
		checkSplit(t, all, sep, all[:c], all[c+1:])
		checkSplit(t, string([]byte{sep}), sep, "", "")
		checkSplit(t, string([]byte{'x', sep, sep, 'y', '~'}), sep, split(string([]byte{'x', sep, sep, 'y', '~'}), sep)...)
		checkSplit(t, "", sep, "")
	}
}

func TestWd1SplitOfManyTexts(t *testing.T) {
	for _, s := range texts(", a\n\x00\xc3\xa9\xff", 5) {
		for _, sep := range []byte(", \x00\xc3\xff\xe9") {
			checkSplit(t, s, sep, split(s, sep)...)
		}
	}
	for _, s := range texts(",a", 12) {
		checkSplit(t, s, ',', split(s, ',')...)
	}
}

// Split knows no limit: those of a text are Lines's.
func TestWd1SplitOfLongTexts(t *testing.T) {
	for _, n := range []int{100, mostFeeds - 1, mostFeeds, mostFeeds + 1, mostBytes - 1, mostBytes, mostBytes + 1, 1 << 20} {
		checkSplit(t, strings.Repeat(",", n), ',', make([]string, n+1)...)
		checkSplit(t, strings.Repeat("\n", n), '\n', make([]string, n+1)...)
		checkSplit(t, strings.Repeat("x", n), ',', strings.Repeat("x", n))
		checkSplit(t, strings.Repeat("x", n)+","+strings.Repeat("y", n), ',', strings.Repeat("x", n), strings.Repeat("y", n))
		checkSplit(t, strings.Repeat("ab,", n), ',', append(slices.Repeat([]string{"ab"}, n), "")...)
	}
}

func TestWd1SplitIsNewEachTime(t *testing.T) {
	l := words.Split("a,b,c", ',')
	l[1] = "changed"
	_ = append(l[:1], "changed", "changed", "changed")
	checkSplit(t, "a,b,c", ',', "a", "b", "c")
}

func TestWd1JoinByHand(t *testing.T) {
	for _, c := range []struct {
		l    []string
		sep  byte
		want string
	}{
		{nil, ',', ""}, {[]string{}, ',', ""}, {[]string{""}, ',', ""}, {[]string{"", ""}, ',', ","}, {[]string{"", "", ""}, ',', ",,"},
		{[]string{"a"}, ',', "a"}, {[]string{"a", "b"}, ',', "a,b"}, {[]string{"b", "a"}, ',', "b,a"}, {[]string{"a", "", "b"}, ',', "a,,b"},
		{[]string{"", "a"}, ',', ",a"}, {[]string{"a", ""}, ',', "a,"}, {[]string{"ab", "cde", "f"}, '.', "ab.cde.f"},
		{[]string{"a,b", "c"}, ',', "a,b,c"}, {[]string{",", ","}, ',', ",,,"}, {[]string{" ", " "}, ' ', "   "}, {[]string{"a", "b"}, '\n', "a\nb"},
		{[]string{"a", "b"}, 0, "a\x00b"}, {[]string{"a", "b"}, 0x7f, "a\x7fb"}, {[]string{"a", "b"}, 0x80, "a\x80b"}, {[]string{"a", "b"}, 0xe9, "a\xe9b"}, {[]string{"a", "b"}, 0xff, "a\xffb"},
		{[]string{"", "\xa9"}, 0xc3, "é"}, {[]string{"\xc3", ""}, 0xa9, "é"}, {[]string{"é", "\n", "\xff"}, '\t', "é\t\n\t\xff"},
	} {
		checkJoin(t, c.l, c.sep, c.want)
	}
}

func TestWd1JoinOfManyLists(t *testing.T) {
	for _, l := range lists([]string{"", "a", ",", "bc ", "\xff", "é\n\x00"}, 5) {
		for _, sep := range []byte(", \x00\xc3\xff\xe9") {
			checkJoin(t, l, sep, join(l, sep))
		}
	}
	for c := range 256 {
		for _, l := range [][]string{nil, {""}, {"x"}, {"x", "y"}, {"", "", "z"}, {bytesOf(0, 255), bytesOf(0, 255)}} {
			checkJoin(t, l, byte(c), join(l, byte(c)))
		}
	}
}

func TestWd1JoinOfLongLists(t *testing.T) {
	for _, n := range []int{100, mostFeeds, mostFeeds + 1, mostBytes - 1, mostBytes, mostBytes + 1, 1 << 20} {
		checkJoin(t, make([]string, n+1), ',', strings.Repeat(",", n))
		checkJoin(t, []string{strings.Repeat("x", n)}, ',', strings.Repeat("x", n))
		checkJoin(t, []string{strings.Repeat("x", n), strings.Repeat("y", n)}, '\n', strings.Repeat("x", n)+"\n"+strings.Repeat("y", n))
		checkJoin(t, slices.Repeat([]string{"ab"}, n), ',', strings.Repeat("ab,", n-1)+"ab")
	}
}

func TestWd1RowByHand(t *testing.T) {
	checkRow(t, "")
	checkRow(t, "", "")
	checkRow(t, " ", "", "")
	checkRow(t, "a", "a")
	checkRow(t, "a b", "a", "b")
	checkRow(t, "a b c", "a", "b", "c")
	checkRow(t, "c b a", "c", "b", "a")
	checkRow(t, "a  b", "a", "", "b")
	checkRow(t, " a ", "", "a", "")
	checkRow(t, "a b c d", "a b", "c d")
	checkRow(t, "     ", " ", " ", " ")
	checkRow(t, "accept 1.2.3.4:80 5", "accept", "1.2.3.4:80", "5")
	checkRow(t, "a,b \n é\xff", "a,b", "\n", "é\xff")
	checkRow(t, "1 2 3 4 5 6 7 8 9 10 11 12", "1", "2", "3", "4", "5", "6", "7", "8", "9", "10", "11", "12")
	checkRow(t, "", []string{}...)
	checkRow(t, "x y", []string{"x", "y"}...)
}

func TestWd1RowIsJoinWithABlank(t *testing.T) {
	for _, l := range lists([]string{"", "a", " ", "bc ", "\xff", "é\n"}, 5) {
		checkRow(t, join(l, ' '), l...)
	}
	for _, n := range []int{100, mostFeeds + 1, mostBytes + 1} {
		checkRow(t, strings.Repeat(" ", n), make([]string, n+1)...)
	}
}

// Neither the texts of a list nor what lies behind its end may change.
func TestWd1ListsStayAsTheyAre(t *testing.T) {
	whole := []string{"b", "", "a", "behind", "it"}
	before := slices.Clone(whole)
	l := whole[:3]
	checkJoin(t, l, ',', "b,,a")
	checkJoin(t, l[:1], ',', "b")
	checkJoin(t, l[:0], ',', "")
	checkRow(t, "b  a", l...)
	checkRow(t, "b", l[:1]...)
	if !slices.Equal(whole, before) {
		t.Fatalf("the list became %q", whole)
	}
}

// What was returned stays, whatever becomes of the list.
func TestWd1ListsAreNotKept(t *testing.T) {
	l := []string{"a", "b"}
	joined, row := words.Join(l, ','), words.Row(l...)
	l[0], l[1] = "x", "y"
	if joined != "a,b" || row != "a b" {
		t.Fatalf("the texts became %q and %q", joined, row)
	}
	checkJoin(t, l, ',', "x,y")
	checkRow(t, "x y", l...)
}

func TestWd2LimitsAreTheGivenOnes(t *testing.T) {
	if api.MaxText != mostBytes || api.MaxLines != mostFeeds {
		t.Fatalf("the limits are %d and %d", api.MaxText, api.MaxLines)
	}
	if api.OK != 0 || api.ErrForm != 2 || api.ErrLong != 4 {
		t.Fatalf("the errors are %d, %d and %d", api.OK, api.ErrForm, api.ErrLong)
	}
}

func TestWd2LinesByHand(t *testing.T) {
	checkLines(t, "", api.OK)
	checkLines(t, "\n", api.OK, "")
	checkLines(t, "\n\n", api.OK, "", "")
	checkLines(t, "\n\n\n", api.OK, "", "", "")
	checkLines(t, "a\n", api.OK, "a")
	checkLines(t, "a\n\n", api.OK, "a", "")
	checkLines(t, "\na\n", api.OK, "", "a")
	checkLines(t, "a\nb\n", api.OK, "a", "b")
	checkLines(t, "b\na\n", api.OK, "b", "a")
	checkLines(t, "a\n\nb\n", api.OK, "a", "", "b")
	checkLines(t, " \n", api.OK, " ")
	checkLines(t, "~\n", api.OK, "~")
	checkLines(t, " ~ !\n!} ~\n", api.OK, " ~ !", "!} ~")
	checkLines(t, "  a  b  \n", api.OK, "  a  b  ")
	checkLines(t, "a\\n\n", api.OK, "a\\n")
	checkLines(t, "accept 1.2.3.4:80 5\ntick 9\n", api.OK, "accept 1.2.3.4:80 5", "tick 9")
	checkLines(t, bytesOf(32, 126)+"\n", api.OK, bytesOf(32, 126))
}

func TestWd2LinesOfWrongForm(t *testing.T) {
	for _, s := range []string{
		"a", " ", "~", "a\nb", "\na", "a\n ", "a\n\nb", "a\\n",
		"\r\n", "a\r\n", "\r", "a\rb\n", "\n\r", "\t\n", "a\tb\n", "\x00\n", "\x00", "\x1f\n", "\x7f\n", "\x80\n", "\x8a\n", "\xff\n", "\xa0\n", "\x0b\n", "\x0c\n", "\x85\n", "\x1b\n",
		"é\n", "日本\n", "\u2028\n", "\ufeffa\n", "\ufffd\n", "a\n\x7fb\n", "a\nb\x00\n", "a\nb\x1f", "\x7f", "\x7fa\nb\n", "a\nb\n\x00", "a\nb\n\x80",
	} {
		checkLines(t, s, api.ErrForm)
	}
}

// Each byte, at each place of a short text.
func TestWd2LinesOfEachByte(t *testing.T) {
	for c := range 256 {
		x := string([]byte{byte(c)})
		good := c == '\n' || c >= 32 && c <= 126
		for _, s := range []string{x + "\n", x + "a\n", "a" + x + "\n", "a" + x + "b\n", "a\n" + x + "\n", "a\nb" + x + "c\nd\n", x + x + "\n", "\n" + x + "\n"} {
			want, e := read(s)
			if (e == api.OK) != good {
				t.Fatalf("the test itself: %q", s)
			}
			checkLines(t, s, e, want...)
		}
		for _, s := range []string{x, "a" + x, "a\n" + x, "\n" + x, "a\nb" + x} {
			want, e := read(s)
			if (e == api.OK) != (c == '\n') {
				t.Fatalf("the test itself: %q", s)
			}
			checkLines(t, s, e, want...)
		}
	}
}

func TestWd2LinesOfManyTexts(t *testing.T) {
	for _, s := range append(texts("\n a~", 7), append(texts("\n \x1f~\x7f\r\xff", 5), texts(bytesOf(0, 255), 2)...)...) {
		want, e := read(s)
		checkLines(t, s, e, want...)
	}
}

func TestWd2LinesUpToTheMostBytes(t *testing.T) {
	for _, n := range []int{mostBytes / 2, mostBytes - 2, mostBytes - 1, mostBytes} {
		x := strings.Repeat("x", n-1)
		checkLines(t, x+"\n", api.OK, x)
		checkLines(t, "\n"+x[1:]+"\n", api.OK, "", x[1:])
		checkLines(t, x[1:]+"\n\n", api.OK, x[1:], "")
		checkLines(t, x+"x", api.ErrForm)
		checkLines(t, x+"\x00", api.ErrForm)
		checkLines(t, "\x00"+x[1:]+"\n", api.ErrForm)
		checkLines(t, x[1:]+"\x7f\n", api.ErrForm)
		checkLines(t, x[1:]+"\nx", api.ErrForm)
	}
}

func TestWd2LinesOfMoreBytes(t *testing.T) {
	for _, n := range []int{mostBytes + 1, mostBytes + 2, 2 * mostBytes, 2*mostBytes + 5, 1 << 20} {
		x := strings.Repeat("x", n-1)
		for _, s := range []string{x + "\n", x + "x", "\n" + x, "\n" + x[1:] + "\n", x + "\x00", "\x00" + x, x[1:] + "\x7f\n", x + "\xff", strings.Repeat("\x00", n), strings.Repeat("\n", n)} {
			checkLines(t, s, api.ErrLong)
		}
	}
}

// Bytes count, not characters: of these fewer than MaxText stand here.
func TestWd2LinesCountBytes(t *testing.T) {
	checkLines(t, strings.Repeat("é", mostBytes/2)+"\n", api.ErrLong)
	checkLines(t, strings.Repeat("é", mostBytes/2), api.ErrForm)
	checkLines(t, strings.Repeat("é", mostBytes/2-1)+"\n", api.ErrForm)
}

func TestWd2LinesUpToTheMostFeeds(t *testing.T) {
	for _, n := range []int{100, 255, 256, 257, mostFeeds - 1, mostFeeds} {
		checkLines(t, strings.Repeat("\n", n), api.OK, make([]string, n)...)
		checkLines(t, strings.Repeat("a b\n", n), api.OK, slices.Repeat([]string{"a b"}, n)...)
		checkLines(t, strings.Repeat("\n", n)+"x", api.ErrForm)
		checkLines(t, "\r"+strings.Repeat("\n", n), api.ErrForm)
		checkLines(t, strings.Repeat("\r\n", n), api.ErrForm)
	}
	// At both limits at once.
	fifteen := strings.Repeat("z", 15)
	checkLines(t, strings.Repeat(fifteen+"\n", mostFeeds), api.OK, slices.Repeat([]string{fifteen}, mostFeeds)...)
}

func TestWd2LinesOfMoreFeeds(t *testing.T) {
	for _, n := range []int{mostFeeds + 1, mostFeeds + 2, 2 * mostFeeds, 2*mostFeeds + 100, mostBytes / 4} {
		feeds := strings.Repeat("\n", n)
		for _, s := range []string{feeds, "x" + feeds, strings.Repeat("ab\n", n), feeds + "x", feeds + "\x00", "\x00" + feeds, "\xff\r" + feeds, strings.Repeat("\r\n", n)} {
			checkLines(t, s, api.ErrLong)
		}
	}
	checkLines(t, strings.Repeat("\n", mostFeeds)+"x\n", api.ErrLong)
	checkLines(t, strings.Repeat(strings.Repeat("z", 15)+"\n", mostFeeds)+"\n", api.ErrLong)
}

// The lines keep their order and their contents, whatever their number is.
func TestWd2LinesInOrder(t *testing.T) {
	for _, n := range []int{1, 2, 10, 1000, mostFeeds} {
		var s string
		var want []string
		for i := range n {
			want = append(want, "line "+strconv.Itoa(i))
			s += want[i] + "\n"
		}
		checkLines(t, s, api.OK, want...)
	}
}

func TestWd2LinesAreNewEachTime(t *testing.T) {
	l, _ := words.Lines("a\nb\nc\n")
	l[1] = "changed"
	_ = append(l[:1], "changed", "changed", "changed")
	checkLines(t, "a\nb\nc\n", api.OK, "a", "b", "c")
}

func TestWd3JoinOfASplitIsTheText(t *testing.T) {
	for _, s := range texts(", a\n\x00\xc3\xa9\xff", 5) {
		for _, sep := range []byte(", \x00\xc3\xff\xe9") {
			parts := words.Split(s, sep)
			checkJoin(t, parts, sep, s)
			if len(parts) != strings.Count(s, string([]byte{sep}))+1 {
				t.Fatalf("Split(%q, %q) has %d parts", s, sep, len(parts))
			}
		}
		checkRow(t, s, words.Split(s, ' ')...)
	}
	all := bytesOf(0, 255)
	for c := range 256 {
		checkJoin(t, words.Split(all, byte(c)), byte(c), all)
		checkJoin(t, words.Split(all+all, byte(c)), byte(c), all+all)
	}
}

func TestWd3SplitOfAJoinIsTheParts(t *testing.T) {
	for _, l := range lists([]string{"", "a", ".", "bc", "\xfe", "é\n\x01"}, 5) {
		if len(l) == 0 {
			continue
		}
		for _, sep := range []byte(", \x00\xff\xe9") {
			checkSplit(t, words.Join(l, sep), sep, l...)
		}
		checkSplit(t, words.Row(l...), ' ', l...)
	}
	for c := range 256 {
		// Each list of two texts without the byte, of which one has all others.
		others := bytesOf(0, c-1) + bytesOf(c+1, 255)
		checkSplit(t, words.Join([]string{others, ""}, byte(c)), byte(c), others, "")
		checkSplit(t, words.Join([]string{others, others, others}, byte(c)), byte(c), others, others, others)
	}
}

// What the law doesn't say: no parts, and parts that have the byte, come back as others.
func TestWd3SplitOfOtherJoins(t *testing.T) {
	checkSplit(t, words.Join(nil, ','), ',', "")
	checkSplit(t, words.Join([]string{"a,b", "c"}, ','), ',', "a", "b", "c")
	checkSplit(t, words.Row(), ' ', "")
}

func TestWd3AValidTextIsItsLines(t *testing.T) {
	valid := 0
	for _, s := range append(texts("\n a~", 7), texts("\n ~\x7f\r", 5)...) {
		l, e := words.Lines(s)
		if e != api.OK {
			if len(l) > 0 {
				t.Fatalf("Lines(%q) has an error and %q", s, l)
			}
			continue
		}
		valid++
		back := ""
		for _, line := range l {
			back += line + "\n"
		}
		if back != s {
			t.Fatalf("the lines of %q are those of %q", s, back)
		}
		if len(l) != inSet(s, "\n") {
			t.Fatalf("Lines(%q) has %d lines", s, len(l))
		}
	}
	// The empty text, and those that end with a line feed, of four bytes up to 7 and of three up to 5: a Lines that accepts nothing would keep the law.
	if want := 1 + 1 + 4 + 16 + 64 + 256 + 1024 + 4096 + 1 + 1 + 3 + 9 + 27 + 81; valid != want {
		t.Fatalf("%d texts are valid, not %d", valid, want)
	}
}

func TestWd3LinesOfWrittenLines(t *testing.T) {
	for _, l := range lists([]string{"", "a", " ", "~ b", bytesOf(32, 126)}, 5) {
		s := ""
		for _, line := range l {
			s += line + "\n"
		}
		checkLines(t, s, api.OK, l...)
	}
}
