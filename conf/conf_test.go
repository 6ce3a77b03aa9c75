package conf_test

import (
	"fmt"
	"math"
	"math/rand"
	"regexp"
	"slices"
	"strconv"
	"strings"
	"sync"
	"testing"

	"doorman/api"
	"doorman/conf"
	"doorman/vary"
)

// topSpan is the longest span.
const topSpan = 1073741824

// bytes and feeds are the most that a text can have.
const (
	bytes = 65536
	feeds = 4096
)

// usual is the text of a valid conf with sixteen different numbers, in each row one that is not a limit.
const usual = "in 125\nout 11\nshards 3\nbans 1000\nbook 512\nsecret 9223372036854775001\ngroup 4\nping 8\nwork 5\ntime 9\nhalf 3600\nlimit 99\nbanfor 86400\nbase 60\ncap 7200\njitter 30\n"

// least and most are the texts of the valid confs whose numbers are at the lower and at the upper ends.
const (
	least = "in 0\nout 0\nshards 1\nbans 0\nbook 0\nsecret 0\ngroup 0\nping 0\nwork 0\ntime 0\nhalf 1\nlimit 1\nbanfor 1\nbase 1\ncap 1\njitter 0\n"
	most  = "in 65535\nout 65535\nshards 8\nbans 1024\nbook 1024\nsecret 9223372036854775807\ngroup 64\nping 64\nwork 64\ntime 64\nhalf 1073741824\nlimit 10000\nbanfor 1073741824\nbase 1073741824\ncap 1073741824\njitter 1073741824\n"
	plain = "in 8\nout 4\nshards 4\nbans 64\nbook 64\nsecret 1\ngroup 1\nping 1\nwork 1\ntime 1\nhalf 100\nlimit 100\nbanfor 1000\nbase 2\ncap 64\njitter 4\n"
)

// texts are those of the confs.
func texts() []string { return []string{usual, least, most, plain} }

func usualConf() api.Conf {
	return api.Conf{
		MaxIn: 125, MaxOut: 11, Shards: 3, MaxBans: 1000, MaxBook: 512,
		Secret: 9223372036854775001,
		Quota:  api.Quota{Group: 4, Ping: 8, Work: 5, Time: 9},
		Half:   3600, Limit: 99, BanFor: 86400,
		Base: 60, Cap: 7200, Jitter: 30,
	}
}

func leastConf() api.Conf {
	return api.Conf{Shards: 1, Half: 1, Limit: 1, BanFor: 1, Base: 1, Cap: 1}
}

func mostConf() api.Conf {
	return api.Conf{
		MaxIn: 65535, MaxOut: 65535, Shards: 8, MaxBans: 1024, MaxBook: 1024,
		Secret: math.MaxInt64,
		Quota:  api.Quota{Group: 64, Ping: 64, Work: 64, Time: 64},
		Half:   topSpan, Limit: 10000, BanFor: topSpan,
		Base: topSpan, Cap: topSpan, Jitter: topSpan,
	}
}

func plainConf() api.Conf {
	return api.Conf{
		MaxIn: 8, MaxOut: 4, Shards: 4, MaxBans: 64, MaxBook: 64,
		Secret: 1,
		Quota:  api.Quota{Group: 1, Ping: 1, Work: 1, Time: 1},
		Half:   100, Limit: 100, BanFor: 1000,
		Base: 2, Cap: 64, Jitter: 4,
	}
}

// confs are valid, in the order of their texts.
func confs() []api.Conf {
	return []api.Conf{usualConf(), leastConf(), mostConf(), plainConf()}
}

// field is one of a conf's numbers: its word, how it is read and written, and the ends of its range in a conf whose Base is 1 and whose Cap is topSpan.
type field struct {
	word        string
	get         func(c api.Conf) int
	set         func(c *api.Conf, n int)
	least, most int
}

// number is a field that is an int.
func number(word string, of func(c *api.Conf) *int, least, most int) field {
	return field{word, func(c api.Conf) int { return *of(&c) }, func(c *api.Conf, n int) { *of(c) = n }, least, most}
}

func fields() []field {
	secret := field{"secret", func(c api.Conf) int { return int(c.Secret) }, func(c *api.Conf, n int) { c.Secret = uint64(n) }, 0, math.MaxInt}
	return []field{
		number("in", func(c *api.Conf) *int { return &c.MaxIn }, 0, 65535),
		number("out", func(c *api.Conf) *int { return &c.MaxOut }, 0, 65535),
		number("shards", func(c *api.Conf) *int { return &c.Shards }, 1, 8),
		number("bans", func(c *api.Conf) *int { return &c.MaxBans }, 0, 1024),
		number("book", func(c *api.Conf) *int { return &c.MaxBook }, 0, 1024),
		secret,
		number("group", func(c *api.Conf) *int { return &c.Quota.Group }, 0, 64),
		number("ping", func(c *api.Conf) *int { return &c.Quota.Ping }, 0, 64),
		number("work", func(c *api.Conf) *int { return &c.Quota.Work }, 0, 64),
		number("time", func(c *api.Conf) *int { return &c.Quota.Time }, 0, 64),
		number("half", func(c *api.Conf) *int { return &c.Half }, 1, topSpan),
		number("limit", func(c *api.Conf) *int { return &c.Limit }, 1, 10000),
		number("banfor", func(c *api.Conf) *int { return &c.BanFor }, 1, topSpan),
		number("base", func(c *api.Conf) *int { return &c.Base }, 1, topSpan),
		number("cap", func(c *api.Conf) *int { return &c.Cap }, 1, topSpan),
		number("jitter", func(c *api.Conf) *int { return &c.Jitter }, 0, topSpan),
	}
}

// with is a conf with another number in a field.
func with(c api.Conf, f field, n int) api.Conf {
	f.set(&c, n)
	return c
}

func within(n, least, most int) bool { return least <= n && n <= most }

// valid says once more whether a conf is.
func valid(c api.Conf) bool {
	q := c.Quota
	return within(c.MaxIn, 0, 65535) && within(c.MaxOut, 0, 65535) && within(c.Shards, 1, 8) &&
		within(c.MaxBans, 0, 1024) && within(c.MaxBook, 0, 1024) && c.Secret < 1<<63 &&
		within(q.Group, 0, 64) && within(q.Ping, 0, 64) && within(q.Work, 0, 64) && within(q.Time, 0, 64) &&
		within(c.Half, 1, topSpan) && within(c.Limit, 1, 10000) && within(c.BanFor, 1, topSpan) &&
		within(c.Base, 1, topSpan) && within(c.Cap, c.Base, topSpan) && within(c.Jitter, 0, topSpan)
}

// written are a conf's sixteen lines, valid or not.
func written(c api.Conf) string {
	q := c.Quota
	return fmt.Sprintf("in %d\nout %d\nshards %d\nbans %d\nbook %d\nsecret %d\n", c.MaxIn, c.MaxOut, c.Shards, c.MaxBans, c.MaxBook, c.Secret) +
		fmt.Sprintf("group %d\nping %d\nwork %d\ntime %d\n", q.Group, q.Ping, q.Work, q.Time) +
		fmt.Sprintf("half %d\nlimit %d\nbanfor %d\nbase %d\ncap %d\njitter %d\n", c.Half, c.Limit, c.BanFor, c.Base, c.Cap, c.Jitter)
}

var (
	whole = regexp.MustCompile(`\A(?:[ -~]*\n)*\z`)
	form  = regexp.MustCompile(`\A([a-z]+) (0|[1-9][0-9]{0,18})\z`)
)

// parsed is what Parse must return.
func parsed(s string) (api.Conf, int, api.Errno) {
	if len(s) > bytes || strings.Count(s, "\n") > feeds {
		return api.Conf{}, 0, api.ErrLong
	}
	if !whole.MatchString(s) {
		return api.Conf{}, 0, api.ErrForm
	}
	var c api.Conf
	for i, f := range fields() {
		line, rest, _ := strings.Cut(s, "\n")
		found := form.FindStringSubmatch(line)
		if found == nil || found[1] != f.word {
			return api.Conf{}, i + 1, api.ErrForm
		}
		n, err := strconv.ParseInt(found[2], 10, 64)
		if err != nil {
			return api.Conf{}, i + 1, api.ErrForm
		}
		f.set(&c, int(n))
		s = rest
	}
	if s != "" {
		return api.Conf{}, 17, api.ErrForm
	}
	if !valid(c) {
		return api.Conf{}, 0, api.ErrRange
	}
	return c, 0, api.OK
}

func checkParse(t *testing.T, s string, want api.Conf, at int, fails api.Errno) {
	t.Helper()
	got, place, e := conf.Parse(s)
	if got != want || place != at || e != fails {
		t.Fatalf("Parse(%.900q) of %d bytes is %+v, %d, %d, not %+v, %d, %d", s, len(s), got, place, e, want, at, fails)
	}
}

// checkNone is checkParse for an error.
func checkNone(t *testing.T, s string, at int, fails api.Errno) {
	t.Helper()
	checkParse(t, s, api.Conf{}, at, fails)
}

// hold holds Parse against parsed, and returns the error.
func hold(t *testing.T, s string) api.Errno {
	t.Helper()
	want, at, fails := parsed(s)
	checkParse(t, s, want, at, fails)
	return fails
}

func checkRight(t *testing.T, c api.Conf, want bool) {
	t.Helper()
	if got := conf.Right(c); got != want {
		t.Fatalf("Right(%+v) is %v", c, got)
	}
}

func checkText(t *testing.T, c api.Conf, want string) {
	t.Helper()
	if got := conf.Text(c); got != want {
		t.Fatalf("Text(%+v) is %q, not %q", c, got, want)
	}
}

// check holds all that is said of a conf, and of its lines, against its second form.
func check(t *testing.T, c api.Conf) {
	t.Helper()
	checkRight(t, c, valid(c))
	s := written(c)
	if valid(c) {
		checkText(t, c, s)
		checkParse(t, s, c, 0, api.OK)
		return
	}
	checkText(t, c, "")
	if e := hold(t, s); e != api.ErrRange && e != api.ErrForm {
		t.Fatalf("%q: %d", s, e)
	}
}

// around are numbers of both signs at each power of two and at the limits, and those beside them.
func around() []int {
	l := []int{math.MinInt, math.MinInt + 1, math.MaxInt - 1, math.MaxInt}
	for i := range 63 {
		for _, p := range []int{1 << i, -1 << i} {
			l = append(l, p-1, p, p+1)
		}
	}
	for _, n := range []int{10, 60, 100, 1000, 7200, 10000, 65535} {
		l = append(l, n-1, n, n+1, -n)
	}
	return l
}

// few are short enough for each pair of fields.
func few() []int {
	return []int{math.MinInt, -topSpan, -1, 0, 1, 2, 8, 9, 64, 65, 1024, 1025, 7200, 7201, 10000, 10001, 65535, 65536, topSpan - 1, topSpan, topSpan + 1, 1<<32 + 1, math.MaxInt}
}

// rowsOf are a text's lines, each with its line feed.
func rowsOf(s string) []string { return strings.SplitAfter(strings.TrimSuffix(s, "\n"), "\n") }

// lines are a text's lines without their line feeds.
func lines(s string) []string { return strings.Split(strings.TrimSuffix(s, "\n"), "\n") }

// file is the text of lines.
func file(l []string) string {
	var s strings.Builder
	for _, x := range l {
		s.WriteString(x + "\n")
	}
	return s.String()
}

// instead is a text with another line, counted from 0.
func instead(s string, i int, line string) string {
	l := lines(s)
	l[i] = line
	return file(l)
}

func TestTheConfsOfTheTests(t *testing.T) {
	for i, c := range confs() {
		if !valid(c) || written(c) != texts()[i] || len(lines(written(c))) != 16 {
			t.Fatalf("%+v is not %q", c, texts()[i])
		}
	}
	if len(fields()) != 16 {
		t.Fatal(len(fields()))
	}
}

func TestCo1Plain(t *testing.T) {
	want := plainConf()
	if got := conf.Plain(); got != want {
		t.Fatalf("Plain() is %+v", got)
	}
	// What is done with one of them does not show in the next one.
	c := conf.Plain()
	c.MaxIn, c.Quota.Time = 9, 9
	if got := conf.Plain(); got != want || !conf.Right(got) {
		t.Fatalf("Plain() is %+v", got)
	}
	got := []int{}
	for _, f := range fields() {
		got = append(got, f.get(conf.Plain()))
	}
	if !slices.Equal(got, []int{8, 4, 4, 64, 64, 1, 1, 1, 1, 1, 100, 100, 1000, 2, 64, 4}) {
		t.Fatal(got)
	}
}

func TestCo1RightByHand(t *testing.T) {
	for _, c := range confs() {
		checkRight(t, c, true)
	}
	checkRight(t, api.Conf{}, false)
	for _, x := range []struct {
		change func(c *api.Conf)
		want   bool
	}{
		{func(c *api.Conf) { c.MaxIn = -1 }, false},
		{func(c *api.Conf) { c.MaxIn = 0 }, true},
		{func(c *api.Conf) { c.MaxIn = 65535 }, true},
		{func(c *api.Conf) { c.MaxIn = 65536 }, false},
		{func(c *api.Conf) { c.MaxOut = -1 }, false},
		{func(c *api.Conf) { c.MaxOut = 0 }, true},
		{func(c *api.Conf) { c.MaxOut = 65535 }, true},
		{func(c *api.Conf) { c.MaxOut = 65536 }, false},
		{func(c *api.Conf) { c.Shards = 0 }, false},
		{func(c *api.Conf) { c.Shards = 1 }, true},
		{func(c *api.Conf) { c.Shards = 8 }, true},
		{func(c *api.Conf) { c.Shards = 9 }, false},
		{func(c *api.Conf) { c.MaxBans = -1 }, false},
		{func(c *api.Conf) { c.MaxBans = 0 }, true},
		{func(c *api.Conf) { c.MaxBans = 1024 }, true},
		{func(c *api.Conf) { c.MaxBans = 1025 }, false},
		{func(c *api.Conf) { c.MaxBook = -1 }, false},
		{func(c *api.Conf) { c.MaxBook = 0 }, true},
		{func(c *api.Conf) { c.MaxBook = 1024 }, true},
		{func(c *api.Conf) { c.MaxBook = 1025 }, false},
		{func(c *api.Conf) { c.Secret = 0 }, true},
		{func(c *api.Conf) { c.Secret = 9223372036854775807 }, true},
		{func(c *api.Conf) { c.Secret = 9223372036854775808 }, false},
		{func(c *api.Conf) { c.Secret = 9223372036854775809 }, false},
		{func(c *api.Conf) { c.Secret = 18446744073709551615 }, false},
		{func(c *api.Conf) { c.Quota.Group = -1 }, false},
		{func(c *api.Conf) { c.Quota.Group = 0 }, true},
		{func(c *api.Conf) { c.Quota.Group = 64 }, true},
		{func(c *api.Conf) { c.Quota.Group = 65 }, false},
		{func(c *api.Conf) { c.Quota.Ping = -1 }, false},
		{func(c *api.Conf) { c.Quota.Ping = 0 }, true},
		{func(c *api.Conf) { c.Quota.Ping = 64 }, true},
		{func(c *api.Conf) { c.Quota.Ping = 65 }, false},
		{func(c *api.Conf) { c.Quota.Work = -1 }, false},
		{func(c *api.Conf) { c.Quota.Work = 0 }, true},
		{func(c *api.Conf) { c.Quota.Work = 64 }, true},
		{func(c *api.Conf) { c.Quota.Work = 65 }, false},
		{func(c *api.Conf) { c.Quota.Time = -1 }, false},
		{func(c *api.Conf) { c.Quota.Time = 0 }, true},
		{func(c *api.Conf) { c.Quota.Time = 64 }, true},
		{func(c *api.Conf) { c.Quota.Time = 65 }, false},
		{func(c *api.Conf) { c.Half = 0 }, false},
		{func(c *api.Conf) { c.Half = 1 }, true},
		{func(c *api.Conf) { c.Half = topSpan }, true},
		{func(c *api.Conf) { c.Half = topSpan + 1 }, false},
		{func(c *api.Conf) { c.Limit = 0 }, false},
		{func(c *api.Conf) { c.Limit = 1 }, true},
		{func(c *api.Conf) { c.Limit = 10000 }, true},
		{func(c *api.Conf) { c.Limit = 10001 }, false},
		{func(c *api.Conf) { c.BanFor = 0 }, false},
		{func(c *api.Conf) { c.BanFor = 1 }, true},
		{func(c *api.Conf) { c.BanFor = topSpan }, true},
		{func(c *api.Conf) { c.BanFor = topSpan + 1 }, false},
		{func(c *api.Conf) { c.Base = -1 }, false},
		{func(c *api.Conf) { c.Base = 0 }, false},
		{func(c *api.Conf) { c.Base = 1 }, true},
		{func(c *api.Conf) { c.Base = 7200 }, true},
		{func(c *api.Conf) { c.Base = 7201 }, false},
		{func(c *api.Conf) { c.Base, c.Cap = 0, 0 }, false},
		{func(c *api.Conf) { c.Base, c.Cap = -5, -5 }, false},
		{func(c *api.Conf) { c.Base, c.Cap = -5, 5 }, false},
		{func(c *api.Conf) { c.Base, c.Cap = topSpan, topSpan }, true},
		{func(c *api.Conf) { c.Base, c.Cap = topSpan, topSpan-1 }, false},
		{func(c *api.Conf) { c.Base, c.Cap = topSpan+1, topSpan }, false},
		{func(c *api.Conf) { c.Base, c.Cap = topSpan+1, topSpan+1 }, false},
		{func(c *api.Conf) { c.Cap = 0 }, false},
		{func(c *api.Conf) { c.Cap = 59 }, false},
		{func(c *api.Conf) { c.Cap = 60 }, true},
		{func(c *api.Conf) { c.Cap = topSpan }, true},
		{func(c *api.Conf) { c.Cap = topSpan + 1 }, false},
		{func(c *api.Conf) { c.Jitter = -1 }, false},
		{func(c *api.Conf) { c.Jitter = 0 }, true},
		// The jitter may be longer than the longest delay.
		{func(c *api.Conf) { c.Jitter = 7201 }, true},
		{func(c *api.Conf) { c.Jitter = topSpan }, true},
		{func(c *api.Conf) { c.Jitter = topSpan + 1 }, false},
	} {
		c := usualConf()
		x.change(&c)
		checkRight(t, c, x.want)
		check(t, c)
	}
}

// Each number from the least one to the greatest one is valid, and none beside them; the other numbers do not matter.
func TestCo1RightAtTheLimits(t *testing.T) {
	for _, c := range confs() {
		c.Base, c.Cap = 1, topSpan
		for _, f := range fields() {
			for _, n := range []int{f.least, f.least + 1, f.least + 2, f.most/2 + 1, f.most - 1, f.most} {
				checkRight(t, with(c, f, n), true)
				check(t, with(c, f, n))
			}
			// Beside the greatest secret there is the least int, which stands for 2^63.
			beyond := f.most
			beyond++
			for _, n := range []int{f.least - 1, beyond, math.MinInt, math.MinInt + 1} {
				checkRight(t, with(c, f, n), false)
				check(t, with(c, f, n))
			}
		}
	}
}

func TestCo1RightOfEachNumber(t *testing.T) {
	for _, c := range confs() {
		for _, f := range fields() {
			for _, n := range around() {
				check(t, with(c, f, n))
			}
			if f.word == "secret" {
				continue
			}
			for n := -3; n < 10010; n++ {
				checkRight(t, with(c, f, n), valid(with(c, f, n)))
			}
		}
	}
}

func TestCo1RightOfEachPairOfFields(t *testing.T) {
	for _, c := range []api.Conf{usualConf(), mostConf()} {
		for i, f := range fields() {
			for _, g := range fields()[:i] {
				for _, n := range few() {
					for _, m := range few() {
						x := with(with(c, f, n), g, m)
						checkRight(t, x, valid(x))
					}
				}
			}
		}
	}
}

func TestCo1RightOfEachBaseAndCap(t *testing.T) {
	c := usualConf()
	for _, n := range around() {
		for _, m := range around() {
			c.Base, c.Cap = n, m
			checkRight(t, c, n >= 1 && n <= m && m <= topSpan)
		}
	}
	for n := -2; n < 200; n++ {
		for m := -2; m < 200; m++ {
			c.Base, c.Cap = n, m
			checkRight(t, c, n >= 1 && n <= m)
		}
	}
}

// One bit of a number more or less, as a smaller number would not see.
func TestCo1RightOfEachBit(t *testing.T) {
	for _, c := range confs() {
		for _, f := range fields() {
			for i := range 64 {
				check(t, with(c, f, f.get(c)^int(uint64(1)<<i)))
			}
		}
	}
}

func TestCo2TextByHand(t *testing.T) {
	for i, c := range confs() {
		checkText(t, c, texts()[i])
	}
	checkText(t, api.Conf{}, "")
	c := usualConf()
	c.Secret = 1 << 63
	checkText(t, c, "")
	c = usualConf()
	c.Cap = 59
	checkText(t, c, "")
	c.Cap = 60
	checkText(t, c, strings.Replace(usual, "cap 7200", "cap 60", 1))
}

func TestCo2ParseByHand(t *testing.T) {
	for i, c := range confs() {
		checkParse(t, texts()[i], c, 0, api.OK)
	}
	checkParse(t, strings.Replace(usual, "secret 9223372036854775001", "secret 9223372036854775807", 1), with(usualConf(), fields()[5], math.MaxInt), 0, api.OK)
}

func TestCo2ParseErrorsByHand(t *testing.T) {
	for _, c := range []struct {
		text  string
		at    int
		fails api.Errno
	}{
		// The document's example.
		{"", 1, api.ErrForm},
		// Texts that are not valid have no lines.
		{"in 125", 0, api.ErrForm},
		{"x", 0, api.ErrForm},
		{"x\n\n ", 0, api.ErrForm},
		{strings.TrimSuffix(usual, "\n"), 0, api.ErrForm},
		{usual + "x", 0, api.ErrForm},
		{usual + "\n\n\x7f\n", 0, api.ErrForm},
		{"in 65536\n\x00\n", 0, api.ErrForm},
		{"in\t125\n", 0, api.ErrForm},
		{"in 125\r\n", 0, api.ErrForm},
		{"in \u0661\n", 0, api.ErrForm},
		{strings.Repeat("\n", 4097), 0, api.ErrLong},
		{strings.Repeat("x", 65537), 0, api.ErrLong},
		{usual + strings.Repeat("\n", 4097), 0, api.ErrLong},
		{strings.Repeat("\n", 4096), 1, api.ErrForm},
		{strings.Repeat("x", 65536), 0, api.ErrForm},
		{strings.Repeat("x", 65535) + "\n", 1, api.ErrForm},
		// Lines that are missing.
		{"in 125\n", 2, api.ErrForm},
		{"in 125\nout 11\n", 3, api.ErrForm},
		{strings.TrimSuffix(usual, "jitter 30\n"), 16, api.ErrForm},
		{strings.TrimPrefix(usual, "in 125\n"), 1, api.ErrForm},
		{strings.Replace(usual, "limit 99\n", "", 1), 12, api.ErrForm},
		// Lines that are not those of their rows.
		{"\n", 1, api.ErrForm},
		{"in\n", 1, api.ErrForm},
		{"in \n", 1, api.ErrForm},
		{"in125\n", 1, api.ErrForm},
		{"125\n", 1, api.ErrForm},
		{" in 125\n", 1, api.ErrForm},
		{"in  125\n", 1, api.ErrForm},
		{"in 125 \n", 1, api.ErrForm},
		{"in 125 1\n", 1, api.ErrForm},
		{"In 125\n", 1, api.ErrForm},
		{"inn 125\n", 1, api.ErrForm},
		{"i 125\n", 1, api.ErrForm},
		{"in=125\n", 1, api.ErrForm},
		{"in x\n", 1, api.ErrForm},
		{"in 0x7d\n", 1, api.ErrForm},
		{"in 7d\n", 1, api.ErrForm},
		{"in -1\n", 1, api.ErrForm},
		{"in -0\n", 1, api.ErrForm},
		{"in +1\n", 1, api.ErrForm},
		{"in 00\n", 1, api.ErrForm},
		{"in 0125\n", 1, api.ErrForm},
		{"in 1e2\n", 1, api.ErrForm},
		{"in 1_0\n", 1, api.ErrForm},
		{"in 1.0\n", 1, api.ErrForm},
		{"in 9223372036854775808\n", 1, api.ErrForm},
		{"in 9223372036854775807\n", 2, api.ErrForm},
		{"out 11\n", 1, api.ErrForm},
		{"# a conf\n" + usual, 1, api.ErrForm},
		{"\n" + usual, 1, api.ErrForm},
		{strings.Replace(usual, "out", "in", 1), 2, api.ErrForm},
		{strings.Replace(usual, "secret 9223372036854775001", "secret 9223372036854775808", 1), 6, api.ErrForm},
		{strings.Replace(usual, "secret 9223372036854775001", "secret 18446744073709551616", 1), 6, api.ErrForm},
		{strings.Replace(usual, "secret 9223372036854775001", "secret -1", 1), 6, api.ErrForm},
		{strings.Replace(usual, "jitter 30", "jitter 030", 1), 16, api.ErrForm},
		// The first line that is wrong counts, and one that is comes before one too many.
		{strings.NewReplacer("ping 8", "ping", "cap 7200", "cap").Replace(usual), 8, api.ErrForm},
		{strings.Replace(usual, "jitter 30", "jitter", 1) + "x\n", 16, api.ErrForm},
		{strings.Replace(usual, "ping 8\n", "", 1) + "x\n", 8, api.ErrForm},
		{strings.Replace(usual, "ping 8\n", "ping 8\n\n", 1), 9, api.ErrForm},
		// Lines too many.
		{usual + "\n", 17, api.ErrForm},
		{usual + "x\n", 17, api.ErrForm},
		{usual + "in 125\n", 17, api.ErrForm},
		{usual + usual, 17, api.ErrForm},
		{usual + "\n\n\n", 17, api.ErrForm},
		{usual + strings.Repeat("\n", 4080), 17, api.ErrForm},
		{usual + strings.Repeat("\n", 4081), 0, api.ErrLong},
		// Numbers out of their ranges, if each line is one of its row.
		{strings.Replace(usual, "in 125", "in 65536", 1), 0, api.ErrRange},
		{strings.Replace(usual, "shards 3", "shards 0", 1), 0, api.ErrRange},
		{strings.Replace(usual, "cap 7200", "cap 59", 1), 0, api.ErrRange},
		{strings.Replace(usual, "jitter 30", "jitter 9223372036854775807", 1), 0, api.ErrRange},
		{strings.NewReplacer("in 125", "in 65536", "jitter 30", "jitter x").Replace(usual), 16, api.ErrForm},
		{strings.Replace(usual, "in 125", "in 65536", 1) + "\n", 17, api.ErrForm},
		{strings.Replace(usual, "in 125", "in 65536", 1) + "\n\x00", 0, api.ErrForm},
		{strings.NewReplacer("in 125", "in 65536", "jitter 30\n", "").Replace(usual), 16, api.ErrForm},
	} {
		checkNone(t, c.text, c.at, c.fails)
		hold(t, c.text)
	}
}

// So many lines of a conf alone, and a conf with lines behind it.
func TestCo2ParseOfEachNumberOfLines(t *testing.T) {
	for _, s := range texts() {
		for n := range 16 {
			checkNone(t, file(lines(s)[:n]), n+1, api.ErrForm)
			checkNone(t, strings.Join(rowsOf(s)[:n], "")+"\n", n+1, api.ErrForm)
		}
		for _, more := range []string{"\n", " \n", "x\n", "in 8\n", "jitter 4\n"} {
			for _, n := range []int{1, 2, 15, 16, 17, 100, 4079, 4080} {
				checkNone(t, s+strings.Repeat(more, n), 17, api.ErrForm)
			}
			checkNone(t, s+strings.Repeat(more, 4081), 0, api.ErrLong)
		}
	}
}

// A line in the place of another one, at each place.
func TestCo2ParseOfEachLineElsewhere(t *testing.T) {
	for _, s := range texts() {
		l := lines(s)
		for i := range l {
			for j := range l {
				if i == j {
					continue
				}
				checkNone(t, instead(s, i, l[j]), i+1, api.ErrForm)
				other := slices.Clone(l)
				other[i], other[j] = other[j], other[i]
				checkNone(t, file(other), min(i, j)+1, api.ErrForm)
				checkNone(t, file(slices.Insert(slices.Clone(l), i, l[j])), i+1, api.ErrForm)
			}
			checkNone(t, file(slices.Delete(slices.Clone(l), i, i+1)), i+1, api.ErrForm)
			// The line itself once more: the next one is where it should not be.
			checkNone(t, file(slices.Insert(slices.Clone(l), i, l[i])), i+2, api.ErrForm)
		}
	}
}

// wrongLines are such as are not of the form of a word and a number.
func wrongLines(word string) []string {
	l := []string{"", " ", word, word + " ", "9", " 9", word + "9", "9 " + word, word + " " + word, word + " 9 9", word + " 9 " + word, strings.ToUpper(word) + " 9", word[:len(word)-1] + " 9", word[1:] + " 9", word + "s 9", "a" + word + " 9"}
	for _, n := range []string{"-1", "-0", "+0", "+9", "00", "01", "09", "9 ", " 9", "9x", "x9", "0x9", "9.", ".9", "9,", "9e0", "1_0", "1 0", "a", "f", "A", "'9'", "/", ":", "9223372036854775808", "9223372036854775809", "9223372036854775810", "9223372036854775900", "9300000000000000000", "10000000000000000000", "18446744073709551615", "18446744073709551616", "18446744073709551617", "18446744073709551680", "36893488147419103233", "340282366920938463463374607431768211457", "100000000000000000000000000000000000000001", strings.Repeat("9", 400), strings.Repeat("0", 400) + "9"} {
		l = append(l, word+" "+n)
	}
	return l
}

func TestCo2ParseOfWrongLines(t *testing.T) {
	for _, s := range texts() {
		for i, f := range fields() {
			for _, line := range wrongLines(f.word) {
				text := instead(s, i, line)
				checkNone(t, text, i+1, api.ErrForm)
				checkNone(t, text+"\n", i+1, api.ErrForm)
				checkNone(t, file(lines(text)[:i+1]), i+1, api.ErrForm)
				hold(t, text)
			}
		}
	}
}

// Of two lines that are wrong the first one counts.
func TestCo2ParseOfTwoWrongLines(t *testing.T) {
	for i, f := range fields() {
		for j, g := range fields()[:i] {
			for _, x := range []string{"", f.word, f.word + " 09", f.word + " 9223372036854775808"} {
				for _, y := range []string{"", g.word, g.word + " -9", g.word + " 9223372036854775808"} {
					checkNone(t, instead(instead(usual, i, x), j, y), j+1, api.ErrForm)
				}
			}
			// A number out of its range is no wrong line.
			out := g.word + " 9223372036854775807"
			checkNone(t, instead(instead(usual, i, f.word), j, out), i+1, api.ErrForm)
		}
	}
}

// Each number from 0 to 2^63 - 1 is one that a row may have, and the conf says whether it is in its range.
func TestCo2ParseOfEachNumber(t *testing.T) {
	met := map[api.Errno]int{}
	for at, c := range confs() {
		for i, f := range fields() {
			for _, n := range around() {
				if n < 0 {
					checkNone(t, instead(texts()[at], i, f.word+" "+strconv.Itoa(n)), i+1, api.ErrForm)
					continue
				}
				text := instead(texts()[at], i, f.word+" "+strconv.Itoa(n))
				x := with(c, f, n)
				if valid(x) {
					checkParse(t, text, x, 0, api.OK)
				} else {
					checkNone(t, text, 0, api.ErrRange)
				}
				met[hold(t, text)]++
				checkNone(t, text+"\n", 17, api.ErrForm)
			}
		}
	}
	if met[api.OK] < 500 || met[api.ErrRange] < 500 {
		t.Fatal(met)
	}
}

func TestCo2ParseOfEachPairOfNumbers(t *testing.T) {
	for i, f := range fields() {
		for _, g := range fields()[:i] {
			for _, n := range few() {
				for _, m := range few() {
					hold(t, written(with(with(usualConf(), f, n), g, m)))
				}
			}
		}
	}
}

func TestCo2ParseOfTextsBesideTexts(t *testing.T) {
	met := map[api.Errno]int{}
	for _, s := range texts() {
		for _, x := range vary.Texts(s) {
			met[hold(t, x)]++
		}
	}
	if met[api.OK] < 100 || met[api.ErrForm] < 100 || met[api.ErrRange] < 10 {
		t.Fatal(met)
	}
}

// All short texts of some bytes, alone and as the end of a conf.
func TestCo2ParseOfShortTexts(t *testing.T) {
	before := strings.TrimSuffix(usual, "30\n")
	var longer func(s string)
	longer = func(s string) {
		hold(t, s)
		hold(t, before+s)
		if len(s) == 5 {
			return
		}
		for _, c := range []byte("in 09\n") {
			longer(s + string([]byte{c}))
		}
	}
	longer("")
}

// Texts of as many bytes as a text can have, and of one more.
func TestCo2ParseAtTheLimitsOfTexts(t *testing.T) {
	room := bytes - len(usual)
	checkNone(t, usual+strings.Repeat("x", room-1)+"\n", 17, api.ErrForm)
	checkNone(t, usual+strings.Repeat("x", room)+"\n", 0, api.ErrLong)
	checkNone(t, usual+strings.Repeat("x", room), 0, api.ErrForm)
	checkNone(t, usual+strings.Repeat("\x00", room+1), 0, api.ErrLong)
	for i := range fields() {
		l := lines(usual)
		l[i] += strings.Repeat("0", room)
		checkNone(t, file(l), i+1, api.ErrForm)
		l[i] += "0"
		checkNone(t, file(l), 0, api.ErrLong)
	}
}

// drawn is a conf, most often a valid one.
func drawn(r *rand.Rand) api.Conf {
	var c api.Conf
	for _, f := range fields() {
		span := r.Intn(f.most-f.least) >> r.Intn(63)
		f.set(&c, f.least+span)
	}
	if r.Intn(4) > 0 {
		c.Base, c.Cap = min(c.Base, c.Cap), max(c.Base, c.Cap)
	}
	if r.Intn(8) == 0 {
		l := fields()
		l[r.Intn(len(l))].set(&c, few()[r.Intn(len(few()))])
	}
	return c
}

func TestCo2DrawnConfs(t *testing.T) {
	r := rand.New(rand.NewSource(1))
	good := 0
	for range 20000 {
		c := drawn(r)
		check(t, c)
		if valid(c) {
			good++
		}
	}
	if good < 10000 || good > 19000 {
		t.Fatal(good)
	}
}

// changed is a text with a change or two: of a byte, of a line, of its end.
func changed(r *rand.Rand, s string) string {
	const some = "\n\n 0123456789incutsape-x"
	for range 1 + r.Intn(2) {
		if s == "" {
			return s
		}
		i, l := r.Intn(len(s)), lines(s)
		j, k := r.Intn(len(l)), r.Intn(len(l))
		c := some[r.Intn(len(some)):][:1]
		switch r.Intn(7) {
		case 0:
			s = s[:i] + c + s[i:]
		case 1:
			s = s[:i] + c + s[i+1:]
		case 2:
			s = s[:i] + s[i+1:]
		case 3:
			s = s[:i] + "\n"
		case 4:
			l[j], l[k] = l[k], l[j]
			s = file(l)
		case 5:
			s = file(slices.Delete(l, j, j+1))
		case 6:
			s = file(slices.Insert(l, j, l[k]))
		}
	}
	return s
}

func TestCo2ParseOfDrawnTexts(t *testing.T) {
	r := rand.New(rand.NewSource(2))
	met := map[api.Errno]int{}
	for range 20000 {
		met[hold(t, changed(r, written(drawn(r))))]++
	}
	if met[api.OK] < 100 || met[api.ErrForm] < 100 || met[api.ErrRange] < 100 {
		t.Fatal(met)
	}
}

// Every valid conf is read from its text, and what is read is written as it was.
func TestCo3EachTextIsReadBack(t *testing.T) {
	r := rand.New(rand.NewSource(3))
	l := confs()
	for _, c := range confs() {
		for _, f := range fields() {
			for _, n := range around() {
				l = append(l, with(c, f, n))
			}
		}
	}
	for range 20000 {
		l = append(l, drawn(r))
	}
	read := 0
	for _, c := range l {
		if !conf.Right(c) {
			continue
		}
		s := conf.Text(c)
		checkParse(t, s, c, 0, api.OK)
		if x, _, e := conf.Parse(s); e == api.OK && conf.Text(x) == s {
			read++
		}
	}
	if read < 10000 {
		t.Fatal(read)
	}
}

// Different confs have different texts, and the texts show the rows in order.
func TestCo3EachNumberIsInItsRow(t *testing.T) {
	for _, c := range confs() {
		for i, f := range fields() {
			for _, n := range around() {
				x := with(c, f, n)
				if !conf.Right(x) {
					continue
				}
				was, is := lines(conf.Text(c)), lines(conf.Text(x))
				for j := range is {
					if (is[j] != was[j]) != (j == i && n != f.get(c)) {
						t.Fatalf("%q, then %q", was, is)
					}
				}
			}
		}
	}
}

func TestManyGoroutines(t *testing.T) {
	var all sync.WaitGroup
	for i := range 32 {
		all.Add(1)
		go func() {
			defer all.Done()
			r := rand.New(rand.NewSource(int64(i)))
			for range 200 {
				c := drawn(r)
				s := written(c)
				want, at, fails := parsed(s)
				got, place, e := conf.Parse(s)
				if got != want || place != at || e != fails || conf.Right(c) != valid(c) || conf.Text(c) != map[bool]string{true: s}[valid(c)] || conf.Plain() != plainConf() {
					t.Errorf("%+v: %+v, %d, %d", c, got, place, e)
				}
			}
		}()
	}
	all.Wait()
}
