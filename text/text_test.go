package text

import (
	"math"
	"slices"
	"strings"
	"testing"
	"unicode/utf8"

	"trellis/api"
)

// texts: every row of at most three of the pieces: ordinary runes, wide ones, some that take no cell, right and wrong bytes.
func texts() []string {
	pieces := []string{"a", " ", "é", "日", "\U0001F600", "\u0301", "\u200b", "\ufeff", "\n", "\x00", "\x7f", "\ufffd", "\xe6", "\xe6\x97", "\xa5", "\xff", "\xf0\x9f\x98", "\xed\xa0\x80"}
	all := []string{""}
	last := []string{""}
	for range 3 {
		var longer []string
		for _, s := range last {
			for _, p := range pieces {
				longer = append(longer, s+p)
			}
		}
		all = append(all, longer...)
		last = longer
	}
	return all
}

// runes of s, and where each begins, by Next alone.
func runes(t *testing.T, s string) (list []rune, at []int) {
	t.Helper()
	for i := 0; i < len(s); {
		r, n := Next(s[i:])
		if n < 1 || n > len(s)-i {
			t.Fatalf("Next(%q) takes %d bytes", s[i:], n)
		}
		list, at = append(list, r), append(at, i)
		i += n
	}
	return list, at
}

// P1.1

func TestNext(t *testing.T) {
	for _, c := range []struct {
		b    string
		r    rune
		size int
	}{
		{"", 0, 0},
		{"x", 'x', 1},
		{"xyz", 'x', 1},
		{"\x00x", 0, 1},
		{"\x7f", 0x7f, 1},
		{"\u0080", 0x80, 2},
		{"\u07ff", 0x7ff, 2},
		{"\u0800", 0x800, 3},
		{"日x", '日', 3},
		{"\ud7ff", 0xd7ff, 3},
		{"\ue000", 0xe000, 3},
		{"\ufffd", 0xfffd, 3},
		{"\uffff", 0xffff, 3},
		{"\U00010000", 0x10000, 4},
		{"\U0001F600\u0301", 0x1f600, 4},
		{"\U0010FFFF", 0x10ffff, 4},
	} {
		if r, size := Next(c.b); r != c.r || size != c.size {
			t.Errorf("Next(%q): %#x, %d, want %#x, %d", c.b, r, size, c.r, c.size)
		}
	}
}

func TestNextOfWrongBytes(t *testing.T) {
	for _, b := range []string{
		"\x80", "\xbf", "\xa5x", // the inside of a rune
		"\xc3", "\xe6", "\xe6\x97", "\xf0\x9f\x98", // not whole
		"\xc3x", "\xe6x", "\xe6\x97x", "\xf0\x9f\x98x", "\xe6日", // not whole, with something behind
		"\xc0\x80", "\xc1\xbf", "\xe0\x9f\xbf", "\xf0\x8f\xbf\xbf", // longer than it need be
		"\xed\xa0\x80", "\xed\xbf\xbf", // halves of a pair
		"\xf4\x90\x80\x80", "\xf5\x80\x80\x80", // above the last rune
		"\xfe", "\xff", "\xf8\x88\x80\x80\x80",
	} {
		if r, size := Next(b); r != 0xfffd || size != 1 {
			t.Errorf("Next(%q): %#x, %d, want 0xfffd, 1", b, r, size)
		}
	}
}

func TestNextOfEveryRune(t *testing.T) {
	for r := rune(0); r <= utf8.MaxRune; r++ {
		if r >= 0xd800 && r <= 0xdfff {
			continue
		}
		b := string(r)
		if got, size := Next(b + "x"); got != r || size != len(b) {
			t.Fatalf("Next(%q): %#x, %d, want %#x, %d", b+"x", got, size, r, len(b))
		}
	}
}

// P1.2

func TestWidth(t *testing.T) {
	for _, c := range []struct {
		first, last rune
		width       int
		ahead, next int // how wide the ones beside the range are
	}{
		{0x0, 0x1f, 0, 0, 1},
		{0x7f, 0x9f, 0, 1, 1},
		{0x300, 0x36f, 0, 1, 1},
		{0x200b, 0x200f, 0, 1, 1},
		{0x2028, 0x202e, 0, 1, 1},
		{0x20d0, 0x20ff, 0, 1, 1},
		{0xd800, 0xdfff, 0, 1, 1},
		{0xfe00, 0xfe0f, 0, 1, 1},
		{0xfeff, 0xfeff, 0, 1, 2},
		{0x1100, 0x115f, 2, 1, 1},
		{0x2e80, 0x303e, 2, 1, 1},
		{0x3041, 0x4dbf, 2, 1, 1},
		{0x4e00, 0xa4cf, 2, 1, 1},
		{0xac00, 0xd7a3, 2, 1, 1},
		{0xf900, 0xfaff, 2, 1, 1},
		{0xfe30, 0xfe6f, 2, 1, 1},
		{0xff00, 0xff60, 2, 0, 1},
		{0xffe0, 0xffe6, 2, 1, 1},
		{0x1f300, 0x1f64f, 2, 1, 1},
		{0x1f900, 0x1f9ff, 2, 1, 1},
		{0x20000, 0x3fffd, 2, 1, 1},
		{0x20, 0x7e, 1, 0, 0},
		{0xa0, 0x2ff, 1, 0, 0},
		{0x303f, 0x3040, 1, 2, 2},
		{0x4dc0, 0x4dff, 1, 2, 2},
		{0xd7a4, 0xd7ff, 1, 2, 0},
		{0xe000, 0xf8ff, 1, 0, 2},
		{0x3fffe, 0x10ffff, 1, 2, 0},
	} {
		for r := c.first; r <= c.last; r++ {
			if got := Width(r); got != c.width {
				t.Fatalf("Width(%#x): %d, want %d", r, got, c.width)
			}
		}
		if got := Width(c.first - 1); got != c.ahead {
			t.Errorf("Width(%#x): %d, want %d", c.first-1, got, c.ahead)
		}
		if got := Width(c.last + 1); got != c.next {
			t.Errorf("Width(%#x): %d, want %d", c.last+1, got, c.next)
		}
	}
}

func TestWidthsCounted(t *testing.T) {
	var count [3]int
	for r := rune(0); r <= utf8.MaxRune; r++ {
		count[Width(r)]++
	}
	none := 0x20 + 0x21 + 0x70 + 5 + 7 + 0x30 + 0x800 + 0x10 + 1
	two := 0x60 + 0x1bf + 0x1d7f + 0x56d0 + 0x2ba4 + 0x200 + 0x40 + 0x61 + 7 + 0x350 + 0x100 + 0x1fffe
	if want := [3]int{none, 0x110000 - none - two, two}; count != want {
		t.Errorf("runes that take 0, 1 and 2 cells: %v, want %v", count, want)
	}
}

func TestWidthOfNoRune(t *testing.T) {
	for _, r := range []rune{-1, -0x20, math.MinInt32, 0x110000, 0x110001, math.MaxInt32} {
		if got := Width(r); got != 0 {
			t.Errorf("Width(%d): %d, want 0", r, got)
		}
	}
}

func TestWide(t *testing.T) {
	for s, want := range map[string]int{
		"":                       0,
		"abc":                    3,
		"日本":                     4,
		"日本x":                    5,
		"e\u0301x":               2,
		"\n\t\x00\u200b":         0,
		"\xe6\x97":               2, // two bytes that are no rune, each U+FFFD
		"\xed\xa0\x80":           3,
		"日\xe6x":                 4,
		"\ufffd":                 1,
		"\U0001F600\ufe0f\u3000": 4,
	} {
		if got := Wide(s); got != want {
			t.Errorf("Wide(%q): %d, want %d", s, got, want)
		}
	}
}

func TestWideIsTheSum(t *testing.T) {
	for _, s := range texts() {
		want := 0
		list, _ := runes(t, s)
		for _, r := range list {
			want += Width(r)
		}
		if got := Wide(s); got != want {
			t.Fatalf("Wide(%q): %d, want %d", s, got, want)
		}
	}
}

// P1.3

func TestCut(t *testing.T) {
	for _, c := range []struct {
		s    string
		n    int
		want string
	}{
		{"", 0, ""},
		{"", 5, ""},
		{"", -1, ""},
		{"abc", 0, ""},
		{"abc", 2, "ab"},
		{"abc", 3, "abc"},
		{"abc", api.MaxWide, "abc"},
		{"abc", math.MaxInt, "abc"},
		{"abc", -1, ""},
		{"abc", math.MinInt, ""},
		{"日本x", 1, ""}, // in front of a wide rune
		{"日本x", 2, "日"},
		{"日本x", 3, "日"},
		{"日本x", 4, "日本"},
		{"日本x", 5, "日本x"},
		{"a日b", 2, "a"}, // what is narrow behind the wide one doesn't move up
		{"e\u0301x", 1, "e\u0301"},
		{"e\u0301\u200b\nx", 1, "e\u0301\u200b\n"}, // behind runes that take no cell
		{"日\u0301x", 2, "日\u0301"},
		{"\u0301x", 0, "\u0301"},
		{"\u0301x", -1, ""}, // nothing is narrow enough
		{"\u0301", -1, ""},
		{"\xe6\x97x", 1, "\xe6"}, // wrong bytes stay as they are
		{"\xe6\x97x", 2, "\xe6\x97"},
		{strings.Repeat("a", 300), api.MaxWide, strings.Repeat("a", api.MaxWide)},
		{strings.Repeat("a", 300), api.MaxWide + 1, strings.Repeat("a", api.MaxWide+1)},
	} {
		if got := Cut(c.s, c.n); got != c.want {
			t.Errorf("Cut(%q, %d): %q, want %q", c.s, c.n, got, c.want)
		}
	}
}

// cutByHand walks by Next and asks Wide anew of each beginning.
func cutByHand(t *testing.T, s string, n int) string {
	_, at := runes(t, s)
	at = append(at, len(s))
	for i := range len(at) - 1 {
		if Wide(s[:at[i+1]]) > n {
			return s[:at[i]]
		}
	}
	return s
}

func TestCutByHand(t *testing.T) {
	for _, s := range texts() {
		for n := -2; n <= 8; n++ {
			if got, want := Cut(s, n), cutByHand(t, s, n); got != want {
				t.Fatalf("Cut(%q, %d): %q, want %q", s, n, got, want)
			}
		}
	}
}

func TestFit(t *testing.T) {
	for _, c := range []struct {
		s    string
		n    int
		want string
	}{
		{"", 0, ""},
		{"", 3, "   "},
		{"abc", 0, ""},
		{"abc", 2, "ab"},
		{"abc", 3, "abc"},
		{"abc", 5, "abc  "},
		{"日本", 1, " "},
		{"日本", 3, "日 "},
		{"日本", 5, "日本 "},
		{"e\u0301x", 1, "e\u0301"},
		{"\u0301", 0, "\u0301"},
		{"\u0301", 2, "\u0301  "},
		{"日\xe6", 4, "日\xe6 "},
		{"abc", api.MaxWide, "abc" + strings.Repeat(" ", api.MaxWide-3)},
		{strings.Repeat("日", 70), api.MaxWide, strings.Repeat("日", 60)},
		{strings.Repeat("日", 70), api.MaxWide - 1, strings.Repeat("日", 59) + " "},
		{"abc", api.MaxWide + 1, ""},
		{strings.Repeat("a", 300), api.MaxWide + 1, ""},
		{"abc", math.MaxInt, ""},
		{"abc", -1, ""},
		{"\u0301", -1, ""},
		{"abc", math.MinInt, ""},
	} {
		if got := Fit(c.s, c.n); got != c.want {
			t.Errorf("Fit(%q, %d): %q, want %q", c.s, c.n, got, c.want)
		}
	}
}

func TestFitIsAsWideAsAsked(t *testing.T) {
	for _, s := range texts() {
		for _, n := range []int{0, 1, 2, 3, 4, 7, api.MaxWide} {
			got := Fit(s, n)
			cut := Cut(s, n)
			blanks, begins := strings.CutPrefix(got, cut)
			if !begins || strings.Trim(blanks, " ") != "" || Wide(got) != n {
				t.Fatalf("Fit(%q, %d): %q, %d wide", s, n, got, Wide(got))
			}
		}
	}
}

func TestColumnsAndClean(t *testing.T) {
	for _, c := range []struct {
		s       string
		columns []int
		clean   string
	}{
		{"", nil, ""},
		{"abc", []int{0, 1, 2}, "abc"},
		{"日本x", []int{0, 2, 4}, "日本x"},
		{"日\u0301x", []int{0, 2}, "日x"},
		{"a\n\u0301b", []int{0, 1}, "ab"},
		{"\u200b\x1b\u0301", nil, ""},
		{"\u0301a\ufeff", []int{0}, "a"},
		{"\xe6x", []int{0, 1}, "\ufffdx"},
		{"日\xe6\x97", []int{0, 2, 3}, "日\ufffd\ufffd"},
		{"\ufffd", []int{0}, "\ufffd"},
	} {
		if got := Columns(c.s); !slices.Equal(got, c.columns) {
			t.Errorf("Columns(%q): %v, want %v", c.s, got, c.columns)
		}
		if got := Clean(c.s); got != c.clean {
			t.Errorf("Clean(%q): %q, want %q", c.s, got, c.clean)
		}
	}
}

func TestColumnsAndCleanByHand(t *testing.T) {
	for _, s := range texts() {
		var columns []int
		var clean []rune
		list, at := runes(t, s)
		for i, r := range list {
			if Width(r) != 0 {
				columns = append(columns, Wide(s[:at[i]]))
				clean = append(clean, r)
			}
		}
		if got := Columns(s); !slices.Equal(got, columns) {
			t.Fatalf("Columns(%q): %v, want %v", s, got, columns)
		}
		if got := Clean(s); got != string(clean) {
			t.Fatalf("Clean(%q): %q, want %q", s, got, string(clean))
		}
	}
}

func TestColumnsAreNewEachTime(t *testing.T) {
	first := Columns("日x")
	first[1] = 99
	if got := Columns("日x"); !slices.Equal(got, []int{0, 2}) {
		t.Errorf("after another answer was written to: %v", got)
	}
}

// P1.4

func TestCutAndRest(t *testing.T) {
	for _, s := range texts() {
		for _, n := range []int{math.MinInt, -1, 0, 1, 2, 3, 4, 5, 6, 7, api.MaxWide, math.MaxInt} {
			cut := Cut(s, n)
			rest, begins := strings.CutPrefix(s, cut)
			if !begins {
				t.Fatalf("Cut(%q, %d): %q, which it doesn't begin with", s, n, cut)
			}
			if Wide(cut)+Wide(rest) != Wide(s) {
				t.Fatalf("Cut(%q, %d): %q and %q aren't as wide together", s, n, cut, rest)
			}
			if n >= 0 && Wide(cut) > n {
				t.Fatalf("Cut(%q, %d): %q is too wide", s, n, cut)
			}
			if again := Cut(cut, n); again != cut {
				t.Fatalf("Cut(%q, %d): cut again it is %q", cut, n, again)
			}
		}
	}
}
