package copying

import (
	"fmt"
	"math"
	"slices"
	"strings"
	"testing"

	"trellis/api"
)

// of: the lines of a text in which / stands between them.
func of(text string) []string { return strings.Split(text, "/") }

// at: a place, and nothing that is marked.
func at(x, y int) api.Copying { return api.Copying{At: api.Mark{X: x, Y: y}} }

// from one place to another.
func from(x, y, x2, y2 int) api.Copying {
	return api.Copying{From: api.Mark{X: x, Y: y}, At: api.Mark{X: x2, Y: y2}, On: true}
}

// is: is just that answered?
func is[T comparable](t *testing.T, what string, got T, e api.Errno, want T) {
	t.Helper()
	if got != want || e != api.OK {
		t.Errorf("%s = %#v, %d; want %#v", what, got, e, want)
	}
}

// no: is just that error answered?
func no[T comparable](t *testing.T, what string, got T, e, want api.Errno) {
	t.Helper()
	var nothing T
	if got != nothing || e != want {
		t.Errorf("%s = %#v, %d; want nothing, %d", what, got, e, want)
	}
}

const most = api.MaxHistory + api.MaxHigh

// P15.1

func TestCheck(t *testing.T) {
	long := strings.Repeat("x", api.MaxText)
	two, full := of("a/b"), slices.Repeat([]string{long}, most)
	for _, c := range []struct {
		what  string
		lines []string
		c     api.Copying
		want  api.Errno
	}{
		{"one line", of("a"), at(0, 0), api.OK},
		{"one without anything", of(""), at(0, 0), api.OK},
		{"as many as may be, as long as may be", full, from(120, 109, 0, 0), api.OK},
		{"wide runes, as many bytes as may be", []string{strings.Repeat("日", 1333) + "x"}, at(0, 0), api.OK},
		{"what is no line", []string{"a\nb\x00\xff\u0301"}, at(0, 0), api.OK},
		{"X behind all", two, at(120, 1), api.OK},
		{"From behind At", two, from(120, 1, 0, 0), api.OK},
		{"From, though nothing is marked", two, api.Copying{From: api.Mark{X: 1, Y: 1}}, api.OK},

		{"nil", nil, at(0, 0), api.ErrMany},
		{"no line", []string{}, at(0, 0), api.ErrMany},
		{"one too many", slices.Repeat([]string{""}, most+1), at(0, 0), api.ErrMany},
		{"a first line that is too long", []string{long + "x", ""}, at(0, 0), api.ErrMany},
		{"a last line that is too long", append(full[1:most:most], long+"x"), at(0, 0), api.ErrMany},
		{"a line that is too long in bytes", []string{"", strings.Repeat("日", 1334), ""}, at(0, 0), api.ErrMany},
		{"a line that is too long in runes without cells", []string{strings.Repeat("\n", api.MaxText+1)}, at(0, 0), api.ErrMany},
		{"no line, and no place", nil, from(-1, -1, -1, -1), api.ErrMany},
		{"too many, and no place", slices.Repeat([]string{""}, most+1), at(121, 111), api.ErrMany},
		{"too long, and no place", []string{long + "x"}, from(0, 1, 0, 0), api.ErrMany},

		{"At X 121", two, at(121, 0), api.ErrRange},
		{"At X -1", two, at(-1, 0), api.ErrRange},
		{"At Y 2", two, at(0, 2), api.ErrRange},
		{"At Y -1", two, at(0, -1), api.ErrRange},
		{"From X 121", two, from(121, 0, 0, 0), api.ErrRange},
		{"From X -1", two, from(-1, 0, 0, 0), api.ErrRange},
		{"From Y 2", two, from(0, 2, 0, 0), api.ErrRange},
		{"From Y -1", two, from(0, -1, 0, 0), api.ErrRange},
		{"From, though nothing is marked", two, api.Copying{From: api.Mark{Y: 2}}, api.ErrRange},
		{"At Y 110", full, at(0, most), api.ErrRange},
		{"the greatest X", two, at(math.MaxInt, 0), api.ErrRange},
		{"the greatest Y", two, from(0, math.MaxInt, 0, 0), api.ErrRange},
		{"the smallest X", two, from(math.MinInt, 0, 0, 0), api.ErrRange},
		{"the smallest Y", two, at(0, math.MinInt), api.ErrRange},
	} {
		if e := Check(c.lines, c.c); e != c.want {
			t.Errorf("%s: %d, want %d", c.what, e, c.want)
		}
	}
}

func TestBegin(t *testing.T) {
	for _, c := range []struct {
		lines []string
		y     int
	}{{of(""), 0}, {of("abc"), 0}, {of("a/b/日"), 2}, {of("a/b/"), 2}, {slices.Repeat([]string{"x"}, most), most - 1}} {
		got, e := Begin(c.lines)
		is(t, fmt.Sprintf("Begin(%q)", c.lines), got, e, at(0, c.y))
	}
}

// P15.2

// moves from one place to another, in lines, by one way after the other.
var moves = []struct {
	how, lines   string
	x, y, x2, y2 int
}{
	{"up", "a/b/c", 0, 2, 0, 1},
	{"up", "a/b/c", 0, 1, 0, 0},
	{"up", "a/b/c", 7, 0, 7, 0}, // there is none
	{"up", "a/日本語", 5, 1, 5, 0}, // the column stays, whatever stands there
	{"up", "日/a", 1, 1, 1, 0},
	{"up", "/abc", 120, 1, 120, 0},
	{"down", "a/b/c", 0, 0, 0, 1},
	{"down", "a/b/c", 0, 1, 0, 2},
	{"down", "a/b/c", 7, 2, 7, 2},
	{"down", "日本語/a", 5, 0, 5, 1},
	{"down", "abc/", 120, 0, 120, 1},

	{"left", "abc", 2, 0, 1, 0},
	{"left", "abc", 1, 0, 0, 0},
	{"left", "abc", 0, 0, 0, 0}, // no line above
	{"left", "abc", 3, 0, 1, 0}, // the rune at 3 is the c
	{"left", "abc", 120, 0, 1, 0},
	{"left", "日本", 2, 0, 0, 0},
	{"left", "日本", 3, 0, 0, 0}, // the right half of 本
	{"left", "日本", 1, 0, 1, 0}, // of 日, which has nothing ahead of it, so At stays
	{"left", "a日b", 3, 0, 1, 0},
	{"left", "a日b", 2, 0, 0, 0},
	{"left", "abc/de", 0, 1, 2, 0},
	{"left", "a日/de", 0, 1, 1, 0},
	{"left", "abc/日", 1, 1, 2, 0},
	{"left", "/abc", 0, 1, 0, 0}, // the line above has none
	{"left", "a//b", 0, 2, 0, 1},
	{"left", "ab/", 0, 1, 1, 0}, // no rune at X
	{"left", "ab/", 9, 1, 1, 0},
	{"left", "", 9, 0, 9, 0},
	{"left", "a  /b", 0, 1, 2, 0}, // blanks are runes as others
	{"left", "a\u0301b\u0301", 1, 0, 0, 0},
	{"left", "a\u0301\n/\u0301b", 0, 1, 0, 0},
	{"left", "a\xffb", 2, 0, 1, 0}, // a wrong byte is a rune
	{"left", "\u0301/\u0301", 4, 1, 0, 0},

	{"right", "abc", 0, 0, 1, 0},
	{"right", "abc", 1, 0, 2, 0},
	{"right", "abc", 2, 0, 2, 0}, // no next line
	{"right", "abc", 5, 0, 5, 0},
	{"right", "日本", 0, 0, 2, 0},
	{"right", "日本", 1, 0, 2, 0},
	{"right", "日本", 3, 0, 3, 0},
	{"right", "a日b", 1, 0, 3, 0},
	{"right", "a日b", 2, 0, 3, 0},
	{"right", "abc/de", 2, 0, 0, 1},
	{"right", "abc/de", 99, 0, 0, 1},
	{"right", "abc//d", 2, 0, 0, 1},
	{"right", "abc//d", 0, 1, 0, 2},
	{"right", "abc//d", 8, 1, 0, 2},
	{"right", "/ab", 3, 0, 0, 1},
	{"right", "", 0, 0, 0, 0},
	{"right", "", 9, 0, 9, 0},
	{"right", "\u0301a\u0301日", 0, 0, 1, 0},
	{"right", "\u0301/b", 0, 0, 0, 1},
	{"right", "\xe6\x97b", 1, 0, 2, 0}, // each wrong byte is one

	{"start", "abc", 2, 0, 0, 0},
	{"start", "日/abc", 120, 1, 0, 1},
	{"start", "/", 5, 0, 0, 0},
	{"end", "abc", 0, 0, 2, 0},
	{"end", "abc", 120, 0, 2, 0},
	{"end", "a日/b", 0, 0, 1, 0},
	{"end", "a/bc  /d", 0, 1, 3, 1},
	{"end", "日/", 7, 1, 0, 1},
	{"end", "\u0301\n", 7, 0, 0, 0},
	{"end", "ab\u0301\n", 0, 0, 1, 0},

	{"top", "a/b/c", 9, 2, 0, 0},
	{"top", "a/b/c", 9, 0, 0, 0},
	{"bottom", "a/b/c", 9, 0, 0, 2},
	{"bottom", "a/b/c", 9, 2, 0, 2},
	{"bottom", "a", 9, 0, 0, 0},

	{"word", "one two", 0, 0, 4, 0},
	{"word", "one two", 2, 0, 4, 0},
	{"word", "one two", 3, 0, 4, 0}, // from the blank
	{"word", "one   two", 3, 0, 6, 0},
	{"word", "one   two", 5, 0, 6, 0},
	{"word", "one two three", 4, 0, 8, 0},
	{"word", "  one", 0, 0, 2, 0},
	{"word", "one two", 4, 0, 6, 0}, // there is none: the last rune
	{"word", "one two", 120, 0, 6, 0},
	{"word", "one  ", 0, 0, 4, 0},
	{"word", "one/two", 0, 0, 0, 1},
	{"word", "one/two", 120, 0, 0, 1},
	{"word", "one /two", 3, 0, 0, 1},
	{"word", "one/  two", 0, 0, 2, 1},
	{"word", "one///two", 0, 0, 0, 3},
	{"word", "one/ / /two", 0, 0, 0, 3},
	{"word", "one/ /   x/two", 0, 0, 3, 2},
	{"word", "/two", 0, 0, 0, 1}, // no rune at X
	{"word", "/two", 9, 0, 0, 1},
	{"word", "one/", 0, 0, 0, 1}, // the last line has no rune
	{"word", "one//", 5, 0, 0, 2},
	{"word", "one/  ", 0, 0, 1, 1},
	{"word", "", 7, 0, 0, 0},
	{"word", "a/b c", 2, 1, 2, 1},
	{"word", "a/b c/日本", 2, 1, 0, 2},
	{"word", "a/b c/日本", 0, 2, 2, 2},
	{"word", "日 本", 0, 0, 3, 0},
	{"word", "日 本", 1, 0, 3, 0},
	{"word", "日本  語x", 2, 0, 6, 0},
	{"word", "a\u3000b c", 0, 0, 5, 0}, // no blank, but a wide rune
	{"word", "a\u00a0b c", 0, 0, 4, 0},
	{"word", "a\tb\nc d", 0, 0, 4, 0}, // what takes no cell parts no words
	{"word", "a \u0301b", 0, 0, 2, 0},
	{"word", "a \xff", 0, 0, 2, 0},
}

func TestMove(t *testing.T) {
	for _, c := range moves {
		for _, on := range []bool{false, true} {
			place := api.Copying{At: api.Mark{X: c.x, Y: c.y}, From: api.Mark{X: 117}, On: on}
			want := api.Copying{At: api.Mark{X: c.x2, Y: c.y2}, From: api.Mark{X: 117}, On: on}
			got, e := Move(of(c.lines), place, c.how)
			is(t, fmt.Sprintf("%s in %q from %d, %d", c.how, c.lines, c.x, c.y), got, e, want)
		}
	}
}

// At stays at column 120 in lines that go on behind it.
func TestMoveFar(t *testing.T) {
	x := strings.Repeat("x", 119)
	for _, c := range []struct {
		how, lines   string
		x, y, x2, y2 int
	}{
		{"end", x, 0, 0, 118, 0},
		{"end", x + "x", 0, 0, 119, 0},
		{"end", x + "xx", 0, 0, 120, 0},
		{"end", x + "xxx", 0, 0, 120, 0},
		{"end", x + "日", 0, 0, 119, 0},
		{"end", x + "日日", 0, 0, 120, 0},
		{"end", strings.Repeat("日", 1333), 0, 0, 120, 0},
		{"right", x + "xx", 119, 0, 120, 0},
		{"right", x + "xxx", 120, 0, 120, 0},
		{"right", x + "xx/a", 120, 0, 0, 1},
		{"right", x + "xxx/a", 120, 0, 120, 0},
		{"right", x + "日x", 119, 0, 120, 0},
		{"right", x + "日x", 120, 0, 120, 0},
		{"left", x + "xxx", 120, 0, 119, 0},
		{"left", x + "日x", 120, 0, 118, 0}, // the rune at 120 is 日
		{"left", x + "xxx/a", 0, 1, 120, 0},
		{"left", x + x + "/a", 0, 1, 120, 0},
		{"word", x + " x", 0, 0, 120, 0},
		{"word", x + "  x", 0, 0, 120, 0},
		{"word", x + x + " x/y", 0, 0, 120, 0},
		{"word", x + x + " x/y", 120, 0, 120, 0},
		{"word", x + x + "/y", 120, 0, 0, 1},
		{"word", "a/" + x + x, 0, 1, 120, 1},
		{"up", x + x + "/" + x + x, 120, 1, 120, 0},
	} {
		got, e := Move(of(c.lines), at(c.x, c.y), c.how)
		is(t, fmt.Sprintf("%s in %q from %d, %d", c.how, c.lines, c.x, c.y), got, e, at(c.x2, c.y2))
	}
}

func TestMoveMany(t *testing.T) {
	lines := slices.Repeat([]string{""}, most)
	c, e := Move(lines, at(7, 0), "word")
	is(t, "word in lines without anything", c, e, at(0, most-1))
	lines[most-1] = strings.Repeat(" ", api.MaxText-1) + "x"
	c, e = Move(lines, at(0, 0), "word")
	is(t, "word behind many blanks", c, e, at(120, most-1))
	for y := most - 1; y > 0; y-- {
		c, e = Move(lines, at(0, y), "left")
		is(t, "left", c, e, at(0, y-1))
	}
}

func TestMoveWho(t *testing.T) {
	for _, how := range []string{"", " ", "Up", "UP", "up ", " up", "u", "upp", "words", "home", "next", "\x00", "up\x00", "日", strings.Repeat("up", 100000)} {
		got, e := Move(of("abc/def"), from(1, 1, 1, 0), how)
		no(t, fmt.Sprintf("Move %.20q", how), got, e, api.ErrWho)
	}
}

// P15.3

func TestSelect(t *testing.T) {
	lines := of("abc/日/")
	for _, x := range []int{0, 1, 2, 120} {
		for y := range lines {
			for _, c := range []api.Copying{at(x, y), from(3, 2, x, y), {At: api.Mark{X: x, Y: y}, From: api.Mark{X: 5}}} {
				got, e := Select(lines, c, true)
				is(t, fmt.Sprint("Select on of ", c), got, e, from(x, y, x, y))
				got, e = Select(lines, c, false)
				is(t, fmt.Sprint("Select off of ", c), got, e, at(x, y))
			}
		}
	}
}

func TestTake(t *testing.T) {
	for _, c := range []struct {
		lines        string
		x, y, x2, y2 int
		want         string
	}{
		{"abcde", 1, 0, 3, 0, "bcd"},
		{"abcde", 2, 0, 2, 0, "c"},
		{"abcde", 0, 0, 4, 0, "abcde"},
		{"abcde", 0, 0, 120, 0, "abcde"},
		{"abcde", 4, 0, 5, 0, "e"},
		{"abcde", 5, 0, 5, 0, ""}, // beyond the cells of the last rune
		{"abcde", 5, 0, 120, 0, ""},
		{"日本語", 2, 0, 2, 0, "本"},
		{"日本語", 3, 0, 3, 0, "本"}, // by its right half
		{"日本語", 1, 0, 2, 0, "日本"},
		{"日本語", 1, 0, 3, 0, "日本"},
		{"日本語", 1, 0, 4, 0, "日本語"},
		{"日本語", 5, 0, 5, 0, "語"},
		{"日本語", 5, 0, 9, 0, "語"},
		{"日本語", 6, 0, 9, 0, ""},
		{"", 0, 0, 0, 0, ""},
		{"", 0, 0, 9, 0, ""},
		{"abc/def", 1, 0, 1, 1, "bc\nde"},
		{"abc/def", 2, 0, 0, 1, "c\nd"}, // by the row, not by the column
		{"abc/def", 0, 0, 2, 1, "abc\ndef"},
		{"abc/def", 3, 0, 0, 1, "\nd"},
		{"abc/def", 120, 0, 120, 1, "\ndef"},
		{"日/本x", 1, 0, 1, 1, "日\n本"},
		{"日/本x", 2, 0, 2, 1, "\n本x"},
		{"abc/def/ghi", 1, 0, 1, 2, "bc\ndef\ngh"},
		{"abc//ghi", 1, 0, 1, 2, "bc\n\ngh"},
		{"abc/ d  /ghi", 1, 0, 1, 2, "bc\n d  \ngh"}, // blanks at the end stay
		{"abc/def/ghi/jkl", 1, 1, 1, 2, "ef\ngh"},
		{"abc/", 1, 0, 0, 1, "bc\n"},
		{"abc/", 1, 0, 9, 1, "bc\n"},
		{"/abc", 0, 0, 1, 1, "\nab"},
		{"/abc", 9, 0, 1, 1, "\nab"},
		{"/", 9, 0, 0, 1, "\n"},
		{"//", 0, 0, 0, 2, "\n\n"},
		{"a\u0301b\u0301c", 0, 0, 1, 0, "ab"}, // what takes no cell isn't taken
		{"\na\tb\x1bc", 1, 0, 2, 0, "bc"},
		{"x/\u0301/y", 0, 0, 0, 2, "x\n\ny"},
		{"a\xffb\xe6\x97", 1, 0, 3, 0, "\uFFFDb\uFFFD"},
	} {
		lines := of(c.lines)
		got, e := Take(lines, from(c.x, c.y, c.x2, c.y2))
		is(t, fmt.Sprintf("Take of %q from %d, %d to %d, %d", c.lines, c.x, c.y, c.x2, c.y2), got, e, c.want)
		got, e = Take(lines, from(c.x2, c.y2, c.x, c.y))
		is(t, fmt.Sprintf("Take of %q from %d, %d back to %d, %d", c.lines, c.x2, c.y2, c.x, c.y), got, e, c.want)
	}
}

func TestTakeNone(t *testing.T) {
	for _, c := range []api.Copying{at(0, 0), at(2, 1), {From: api.Mark{X: 1}, At: api.Mark{X: 1, Y: 1}}} {
		got, e := Take(of("abc/def"), c)
		no(t, fmt.Sprint("Take of ", c), got, e, api.ErrNone)
	}
	great := slices.Repeat([]string{strings.Repeat("x", api.MaxText)}, most)
	got, e := Take(great, api.Copying{At: api.Mark{Y: most - 1}})
	no(t, "Take of more than may be, if nothing is marked", got, e, api.ErrNone)
}

func TestTakeFull(t *testing.T) {
	x := func(n int) string { return strings.Repeat("x", n) }
	for _, c := range []struct {
		what  string
		lines []string
		c     api.Copying
		size  int // 0: ErrFull
	}{
		{"one line", []string{x(4000), "", ""}, from(0, 0, 0, 1), 0},
		{"one line but its first rune", []string{x(4000), "", ""}, from(1, 0, 0, 1), 4000},
		{"and a line feed more", []string{x(4000), "", ""}, from(1, 0, 0, 2), 0},
		{"and a rune more", []string{x(4000), "y", ""}, from(1, 0, 0, 1), 0},
		{"one rune less", []string{x(4000), "y", ""}, from(2, 0, 0, 1), 4000},
		{"two lines", []string{x(2000), x(1999), ""}, from(0, 0, 0, 2), 0},
		{"two lines, one shorter", []string{x(2000), x(1998), ""}, from(0, 0, 0, 2), 4000},
		{"bytes, not runes", []string{strings.Repeat("日", 1333), ""}, from(0, 0, 0, 1), 4000},
		{"bytes, more than may be", []string{strings.Repeat("日", 1333), "x"}, from(0, 0, 0, 1), 0},
		{"wrong bytes, which are three each", []string{strings.Repeat("\xff", 1333), ""}, from(0, 0, 0, 1), 4000},
		{"wrong bytes, one more", []string{strings.Repeat("\xff", 1334), ""}, from(0, 0, 0, 1), 0},
		{"no cells", []string{strings.Repeat("\u0301", 2000), strings.Repeat("\n", 4000)}, from(0, 0, 0, 1), 1},
		{"a part of a line", []string{x(4000)}, from(0, 0, 120, 0), 121},
		{"all that may be", slices.Repeat([]string{x(4000)}, most), from(0, 0, 120, most-1), 0},
		{"lines without anything", slices.Repeat([]string{""}, most), from(0, 0, 120, most-1), most - 1},
	} {
		got, e := Take(c.lines, c.c)
		if c.size == 0 {
			no(t, c.what, got, e, api.ErrFull)
		} else if len(got) != c.size || e != api.OK {
			t.Errorf("%s: %d bytes, %d; want %d", c.what, len(got), e, c.size)
		}
	}
}

// P15.4

func TestSeek(t *testing.T) {
	for _, c := range []struct {
		lines, what  string
		x, y, x2, y2 int
	}{
		{"one two one", "one", 0, 0, 8, 0}, // behind At
		{"one two one", "one", 8, 0, 0, 0}, // then from the first line on
		{"one two one", "one", 4, 0, 8, 0},
		{"one two one", "one", 120, 0, 0, 0},
		{"one two", "one", 0, 0, 0, 0}, // up to At, and At itself
		{"one two", "two", 4, 0, 4, 0},
		{"one two", "two", 5, 0, 4, 0},
		{"aaaa", "aa", 0, 0, 1, 0}, // one may begin within another
		{"aaaa", "aa", 1, 0, 2, 0},
		{"aaaa", "aa", 2, 0, 0, 0},
		{"abab", "ab", 1, 0, 2, 0},
		{"a/b/a/b", "a", 0, 0, 0, 2},
		{"a/b/a/b", "a", 0, 1, 0, 2},
		{"a/b/a/b", "a", 0, 2, 0, 0},
		{"a/b/a/b", "b", 0, 3, 0, 1},
		{"x a/x a", "a", 2, 0, 2, 1},
		{"x a/x a", "x", 0, 1, 0, 0},
		{"a/b b b/a", "b", 2, 1, 4, 1},
		{"a/b b b/a", "b", 4, 1, 0, 1},
		{"a/b b c/b", "b", 4, 1, 0, 2},
		{"日本日本", "日", 0, 0, 4, 0},
		{"日本日本", "日", 1, 0, 4, 0}, // the right half of the first 日: that one isn't behind it
		{"日本日本", "日", 5, 0, 0, 0},
		{"日本日本", "本", 0, 0, 2, 0},
		{"日本日本", "本", 1, 0, 2, 0},
		{"日本日本", "本日", 0, 0, 2, 0},
		{"日本", "日", 1, 0, 0, 0},
		{"a//b", "b", 5, 1, 0, 2},
		{"a//b", "a", 5, 1, 0, 0},
		{"ab", "\n\u0301a\tb", 1, 0, 0, 0}, // what's Clean
		{"a\u0301b", "ab", 1, 0, 0, 0},
		{"xa\u0301b", "ab", 0, 0, 1, 0},
		{"a b", " ", 0, 0, 1, 0},
		{"a   b", "  ", 1, 0, 2, 0},
		{"x \xff", "\uFFFD", 0, 0, 2, 0}, // a wrong byte is that rune
		{"x \uFFFD", "\xff", 0, 0, 2, 0},
		{"x \xe6\x97", "\xff\xfe", 0, 0, 2, 0},
		{"x \xe6\x97", "\xff", 2, 0, 3, 0},
		{"#.*[a]", ".*[", 0, 0, 1, 0},
		{"a / b", "b", 0, 0, 1, 1},
	} {
		got, e := Seek(of(c.lines), api.Copying{At: api.Mark{X: c.x, Y: c.y}, From: api.Mark{X: 117}, On: true}, c.what)
		is(t, fmt.Sprintf("Seek %q in %q from %d, %d", c.what, c.lines, c.x, c.y), got, e, api.Copying{At: api.Mark{X: c.x2, Y: c.y2}, From: api.Mark{X: 117}, On: true})
		got, e = Seek(of(c.lines), at(c.x, c.y), c.what)
		is(t, fmt.Sprintf("Seek %q in %q from %d, %d, nothing marked", c.what, c.lines, c.x, c.y), got, e, at(c.x2, c.y2))
	}
}

func TestSeekFar(t *testing.T) {
	x := strings.Repeat("x", 119)
	for _, c := range []struct {
		lines        string
		x, y, x2, y2 int
	}{
		{x + "a", 0, 0, 119, 0},
		{x + "xa", 0, 0, 120, 0},
		{x + "xxa", 0, 0, 120, 0}, // its X is at most 120
		{x + "xxa", 120, 0, 120, 0},
		{x + x + x + "a/a", 0, 0, 120, 0},
		{x + x + x + "a/a", 120, 0, 120, 0}, // it stands behind 120 still
		{x + x + x + "a/a", 0, 1, 120, 0},
		{x + "xa/a", 120, 0, 0, 1},
		{x + "日a/a", 119, 0, 120, 0},
		{x + "日a/a", 120, 0, 120, 0},
	} {
		got, e := Seek(of(c.lines), at(c.x, c.y), "a")
		is(t, fmt.Sprintf("Seek in %q from %d, %d", c.lines, c.x, c.y), got, e, at(c.x2, c.y2))
	}
}

func TestSeekText(t *testing.T) {
	for _, what := range []string{"", "\n", "\u0301", "\t\x00\x7f\u200b\ufeff", strings.Repeat("x", api.MaxText+1), strings.Repeat("x", 10000), strings.Repeat("\n", api.MaxText) + "a", strings.Repeat("日", 1334)} {
		got, e := Seek(of("xxx"), from(0, 0, 1, 0), what)
		no(t, fmt.Sprintf("Seek %.20q", what), got, e, api.ErrText)
	}
}

func TestSeekNone(t *testing.T) {
	for _, c := range []struct{ lines, what string }{
		{"abc", "d"}, {"abc", "ac"}, {"abc", "abcd"}, {"abc", "A"}, {"abc", "abc "},
		{"ab/cd", "bc"}, {"ab/cd", "b\nc"}, {"ab/cd", "abcd"}, {"ab/", "ab "}, // in one line
		{"", "a"}, {"", " "}, {"\u0301", " "}, {"a\tb", "a b"},
		{"日", "\xe6"}, {"日", "\xa5"}, {"日", "\xe6\x97"}, {"\xe6\x97", "日"}, {"日", "\uFFFD"}, // rune by rune, not byte by byte
		{"a", strings.Repeat("a", api.MaxText)}, {"a", strings.Repeat("\n", api.MaxText-1) + "b"}, {"x", strings.Repeat("日", 1333)},
	} {
		for y := range of(c.lines) {
			for _, x := range []int{0, 1, 120} {
				got, e := Seek(of(c.lines), api.Copying{At: api.Mark{X: x, Y: y}, On: true}, c.what)
				no(t, fmt.Sprintf("Seek %.20q in %q", c.what, c.lines), got, e, api.ErrNone)
			}
		}
	}
}

func TestSeekGreat(t *testing.T) {
	a := strings.Repeat("a", api.MaxText)
	got, e := Seek([]string{"", a}, at(0, 0), a)
	is(t, "as long as may be", got, e, at(0, 1))
	lines := slices.Repeat([]string{a}, most)
	got, e = Seek(lines, at(0, 3), a[:api.MaxText/2]+"b"+a[:api.MaxText/2-1])
	no(t, "what begins everywhere", got, e, api.ErrNone)
	lines[2] = a[1:] + "b"
	got, e = Seek(lines, at(0, 3), "ab")
	is(t, "in the line above", got, e, at(120, 2))
}

// P15.5

func TestKeep(t *testing.T) {
	long := strings.Repeat("x", api.MaxText)
	for _, c := range []struct {
		l    []string
		s    string
		want []string
	}{
		{nil, "a", []string{"a"}},
		{[]string{}, "", []string{""}},
		{[]string{"b"}, "a", []string{"a", "b"}},
		{[]string{"a"}, "a", []string{"a", "a"}},
		{[]string{"", "c"}, "", []string{"", "", "c"}},
		{[]string{"b", "c", "d"}, "a", []string{"a", "b", "c", "d"}},
		{[]string{"b", "c", "d", "e"}, "a", []string{"a", "b", "c", "d", "e"}},
		{[]string{"b", "c", "d", "e", "f"}, "a", []string{"a", "b", "c", "d", "e"}},
		{[]string{long + "y"}, long, []string{long, long + "y"}}, // nothing is said of those that are there
		{nil, strings.Repeat("日", 1333) + "\n", []string{strings.Repeat("日", 1333) + "\n"}},
		{[]string{"\xff\x00"}, "\n\x1b", []string{"\n\x1b", "\xff\x00"}},
	} {
		got, e := Keep(c.l, c.s)
		if !slices.Equal(got, c.want) || e != api.OK {
			t.Errorf("Keep(%.20q, %.20q) = %.20q, %d", c.l, c.s, got, e)
		}
	}
}

func TestKeepMany(t *testing.T) {
	long := strings.Repeat("x", api.MaxText+1)
	for _, c := range []struct {
		l []string
		s string
	}{
		{make([]string, api.MaxPaste+1), "a"}, {make([]string, 1000), ""}, {nil, long}, {[]string{"a"}, strings.Repeat("日", 1334)},
		{make([]string, api.MaxPaste), long}, {make([]string, api.MaxPaste+1), long},
	} {
		if got, e := Keep(c.l, c.s); len(got) > 0 || e != api.ErrMany {
			t.Errorf("Keep of %d, and of %d bytes = %q, %d", len(c.l), len(c.s), got, e)
		}
	}
}

func TestBytes(t *testing.T) {
	x := strings.Repeat("x", api.MaxText)
	lf, esc := strings.Repeat("\n", api.MaxText), strings.Repeat("\x1b", api.MaxText)
	for _, c := range []struct{ s, plain, marked string }{
		{"", "", ""},
		{"a", "a", "a"},
		{"\n", "\r", "\r"},
		{"a\nb\n\nc", "a\rb\r\rc", "a\rb\r\rc"},
		{"a\r\nb", "a\r\rb", "a\r\rb"},
		{"\x1b", "\x1b", ""},
		{"\x1b\n\x1b\x1b[x", "\x1b\r\x1b\x1b[x", "\r[x"},
		{"a\x1b[201~b", "a\x1b[201~b", "a[201~b"},
		{"\x1b[200~\x1b[201~", "\x1b[200~\x1b[201~", "[200~[201~"},
		{"\x1b\x1b[[2\x1b01~", "\x1b\x1b[[2\x1b01~", "[[201~"},
		{"日\xff\xe6\x97\x00\t\u0301\u009b", "日\xff\xe6\x97\x00\t\u0301\u009b", "日\xff\xe6\x97\x00\t\u0301\u009b"}, // all others stay
		{x, x, x},
		{lf, strings.Repeat("\r", api.MaxText), strings.Repeat("\r", api.MaxText)},
		{esc, esc, ""},
	} {
		got, e := Bytes(c.s, false)
		is(t, fmt.Sprintf("Bytes %.20q", c.s), got, e, c.plain)
		got, e = Bytes(c.s, true)
		is(t, fmt.Sprintf("Bytes %.20q, marked", c.s), got, e, "\x1b[200~"+c.marked+"\x1b[201~")
	}
}

func TestBytesEach(t *testing.T) {
	for b := range 256 {
		s := "x" + string([]byte{byte(b)}) + "y"
		plain, marked := s, s
		switch b {
		case '\n':
			plain, marked = "x\ry", "x\ry"
		case 0x1b:
			marked = "xy"
		}
		got, e := Bytes(s, false)
		is(t, fmt.Sprintf("Bytes %q", s), got, e, plain)
		got, e = Bytes(s, true)
		is(t, fmt.Sprintf("Bytes %q, marked", s), got, e, "\x1b[200~"+marked+"\x1b[201~")
	}
}

func TestBytesMany(t *testing.T) {
	for _, s := range []string{strings.Repeat("x", api.MaxText+1), strings.Repeat("\x1b", api.MaxText+1), strings.Repeat("日", 1334), strings.Repeat("\n", 100000)} {
		for _, marked := range []bool{false, true} {
			got, e := Bytes(s, marked)
			no(t, fmt.Sprintf("Bytes of %d, %v", len(s), marked), got, e, api.ErrMany)
		}
	}
}
