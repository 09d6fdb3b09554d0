package wipe

import (
	"fmt"
	"math"
	"reflect"
	"slices"
	"strings"
	"testing"
	"unicode/utf8"

	"trellis/api"
	"trellis/put"
	"trellis/text"
)

var (
	red   = api.Style{Fore: 4, Back: 2, Bits: api.Bold | api.Reverse}
	green = api.Style{Fore: 3, Back: 9, Bits: api.Under}
	wrong = api.Style{Fore: api.MaxColour + 1}
)

const (
	lowest = math.MinInt
	most   = math.MaxInt
)

// cellsOf a row: its runes in green; '.' stands for a cell that was cleared with S red, '_' for a half that was mended.
func cellsOf(row string) []api.Cell {
	var cells []api.Cell
	for _, r := range row {
		switch {
		case r == '.':
			cells = append(cells, api.Cell{R: ' ', S: api.Style{Back: red.Back}})
		case r == '_':
			cells = append(cells, api.Cell{R: ' ', S: green})
		case text.Width(r) == 2:
			cells = append(cells, api.Cell{R: r, S: green}, api.Cell{S: green})
		default:
			cells = append(cells, api.Cell{R: r, S: green})
		}
	}
	return cells
}

// of: a screen with these rows, and with something in all that wiping doesn't speak of, without any call of this package.
func of(rows ...string) api.Screen {
	g := api.Grid{H: len(rows)}
	for _, row := range rows {
		cells := cellsOf(row)
		g.W = len(cells)
		g.Cells = append(g.Cells, cells...)
	}
	s := api.Screen{
		G:      g,
		S:      red,
		Bottom: g.H - 1,
		Modes:  api.Wrap | api.Insert | api.Hidden,
		Tabs:   make([]bool, g.W),
		K:      api.Kept{X: g.W - 1, Y: g.H - 1, S: green, Modes: api.Origin},
		Last:   '語',
		Title:  "a title 日",
		Gone:   [][]api.Cell{{{R: 'x', S: red}}, {{R: '日'}, {}}},
	}
	s.Tabs[g.W/2] = true
	return s
}

// with: s, and some of it otherwise; its lists are its own.
func with(s api.Screen, set func(*api.Screen)) api.Screen {
	s = copyOf(s)
	set(&s)
	return s
}

func at(s api.Screen, x, y int) api.Screen {
	return with(s, func(s *api.Screen) { s.X, s.Y = x, y })
}

// late: s, its last column just written.
func late(s api.Screen) api.Screen {
	return with(s, func(s *api.Screen) { s.X, s.Late = s.G.W-1, true })
}

func inTime(s api.Screen) api.Screen {
	return with(s, func(s *api.Screen) { s.Late = false })
}

// showing: s, with these rows instead of its own.
func showing(s api.Screen, rows ...string) api.Screen {
	return with(s, func(s *api.Screen) { s.G = of(rows...).G })
}

// showingIn: s, with this row instead of its own one at y.
func showingIn(s api.Screen, y int, row string) api.Screen {
	return with(s, func(s *api.Screen) { copy(s.G.Cells[y*s.G.W:], cellsOf(row)) })
}

// copyOf s, which shares nothing with it, with the lists that have nothing in them nil.
func copyOf(s api.Screen) api.Screen {
	s.G.Cells = append([]api.Cell(nil), s.G.Cells...)
	s.Tabs = append([]bool(nil), s.Tabs...)
	gone := s.Gone
	s.Gone = nil
	for _, row := range gone {
		s.Gone = append(s.Gone, append([]api.Cell(nil), row...))
	}
	return s
}

func equal(a, b api.Screen) bool { return reflect.DeepEqual(copyOf(a), copyOf(b)) }

// call of this package with a number, which its model is given, too.
type call struct {
	name string
	n    int
	do   func(api.Screen, int) (api.Screen, api.Errno)
}

func (c call) of(s api.Screen) (api.Screen, api.Errno) { return c.do(s, c.n) }

func (c call) String() string { return fmt.Sprint(c.name, " ", c.n) }

// calls with each number that may make a difference on a screen of a width.
func calls(w int) []call {
	var all []call
	for _, kind := range []int{lowest, -3, -1, 0, 1, 2, 3, 4, 5, most} {
		all = append(all, call{"Line", kind, Line}, call{"Screen", kind, Screen})
	}
	for _, n := range []int{lowest, -1, 0, w, w + 1, w + 2, api.MaxParam, most - w, most} {
		all = append(all, call{"Chars", n, Chars})
	}
	for n := 1; n < w; n++ {
		all = append(all, call{"Chars", n, Chars})
	}
	return all
}

// expect: nothing but what is wanted comes of it, and that is right.
func expect(t *testing.T, what string, got api.Screen, e api.Errno, want api.Screen) {
	t.Helper()
	if e != api.OK || !equal(got, want) {
		t.Fatalf("%s: %+v, %d, want %+v, 0", what, got, e, want)
	}
	if e := put.Check(got); e != api.OK {
		t.Fatalf("%s: what is answered doesn't pass Check: %d", what, e)
	}
}

// Line

func TestLine(t *testing.T) {
	for _, c := range []struct {
		kind, x int
		want    string
	}{
		{0, 0, "....."}, {0, 1, "a...."}, {0, 2, "ab..."}, {0, 3, "abc.."}, {0, 4, "abcd."},
		{1, 0, ".bcde"}, {1, 1, "..cde"}, {1, 2, "...de"}, {1, 3, "....e"}, {1, 4, "....."},
		{2, 0, "....."}, {2, 2, "....."}, {2, 4, "....."},
		{-1, 0, "....."}, {-1, 2, "ab..."}, {-1, 4, "abcd."}, {-2, 2, "ab..."}, {-3, 2, "ab..."}, {lowest, 2, "ab..."},
		{3, 0, "abcde"}, {3, 2, "abcde"}, {3, 4, "abcde"}, {4, 2, "abcde"}, {api.MaxParam, 2, "abcde"}, {most, 2, "abcde"},
	} {
		for y := range 3 {
			s := at(of("abcde", "abcde", "abcde"), c.x, y)
			got, e := Line(s, c.kind)
			expect(t, fmt.Sprintf("Line %d at %d, %d", c.kind, c.x, y), got, e, showingIn(s, y, c.want))
		}
	}
}

// A wide rune that is cut becomes two blanks: one is cleared, the other one has the look that it had.
func TestLineOfWideRunes(t *testing.T) {
	for _, c := range []struct {
		kind, x int
		want    string
	}{
		{0, 0, "......"}, {0, 1, "a....."}, {0, 2, "a_...."}, {0, 3, "a日..."}, {0, 4, "a日b.."}, {0, 5, "a日b_."},
		{1, 0, ".日b語"}, {1, 1, ".._b語"}, {1, 2, "...b語"}, {1, 3, "....語"}, {1, 4, "....._"}, {1, 5, "......"},
		{2, 0, "......"}, {2, 2, "......"}, {2, 4, "......"},
		{3, 1, "a日b語"}, {3, 2, "a日b語"}, {4, 2, "a日b語"},
	} {
		for y := range 3 {
			s := at(of("a日b語", "a日b語", "a日b語"), c.x, y)
			got, e := Line(s, c.kind)
			expect(t, fmt.Sprintf("Line %d at %d, %d", c.kind, c.x, y), got, e, showingIn(s, y, c.want))
		}
	}
}

// Screen

func TestScreen(t *testing.T) {
	for _, c := range []struct {
		kind, x, y int
		want       [3]string
	}{
		{0, 0, 0, [3]string{"...", "...", "..."}},
		{0, 1, 0, [3]string{"a..", "...", "..."}},
		{0, 2, 0, [3]string{"ab.", "...", "..."}},
		{0, 0, 1, [3]string{"abc", "...", "..."}},
		{0, 1, 1, [3]string{"abc", "d..", "..."}},
		{0, 2, 1, [3]string{"abc", "de.", "..."}},
		{0, 0, 2, [3]string{"abc", "def", "..."}},
		{0, 1, 2, [3]string{"abc", "def", "g.."}},
		{0, 2, 2, [3]string{"abc", "def", "gh."}},
		{-1, 1, 1, [3]string{"abc", "d..", "..."}},
		{-2, 1, 1, [3]string{"abc", "d..", "..."}},
		{lowest, 1, 1, [3]string{"abc", "d..", "..."}},
		{1, 0, 0, [3]string{".bc", "def", "ghi"}},
		{1, 1, 0, [3]string{"..c", "def", "ghi"}},
		{1, 2, 0, [3]string{"...", "def", "ghi"}},
		{1, 0, 1, [3]string{"...", ".ef", "ghi"}},
		{1, 1, 1, [3]string{"...", "..f", "ghi"}},
		{1, 2, 1, [3]string{"...", "...", "ghi"}},
		{1, 0, 2, [3]string{"...", "...", ".hi"}},
		{1, 1, 2, [3]string{"...", "...", "..i"}},
		{1, 2, 2, [3]string{"...", "...", "..."}},
		{2, 0, 0, [3]string{"...", "...", "..."}},
		{2, 1, 1, [3]string{"...", "...", "..."}},
		{2, 2, 2, [3]string{"...", "...", "..."}},
		{4, 1, 1, [3]string{"abc", "def", "ghi"}},
		{5, 0, 0, [3]string{"abc", "def", "ghi"}},
		{api.MaxParam, 1, 1, [3]string{"abc", "def", "ghi"}},
		{most, 2, 2, [3]string{"abc", "def", "ghi"}},
	} {
		s := at(of("abc", "def", "ghi"), c.x, c.y)
		got, e := Screen(s, c.kind)
		expect(t, fmt.Sprintf("Screen %d at %d, %d", c.kind, c.x, c.y), got, e, showing(s, c.want[:]...))
	}
}

func TestScreenOfWideRunes(t *testing.T) {
	for _, c := range []struct {
		kind, x, y int
		want       [3]string
	}{
		{0, 1, 1, [3]string{"日a本", "b....", "....."}},
		{0, 2, 1, [3]string{"日a本", "b_...", "....."}},
		{0, 1, 0, [3]string{"_....", ".....", "....."}},
		{0, 4, 2, [3]string{"日a本", "b語ce", "日d_."}},
		{1, 1, 1, [3]string{".....", ".._ce", "日d本"}},
		{1, 2, 1, [3]string{".....", "...ce", "日d本"}},
		{1, 0, 2, [3]string{".....", ".....", "._d本"}},
		{1, 3, 0, [3]string{"...._", "b語ce", "日d本"}},
		{2, 2, 1, [3]string{".....", ".....", "....."}},
		{4, 2, 1, [3]string{"日a本", "b語ce", "日d本"}},
	} {
		s := at(of("日a本", "b語ce", "日d本"), c.x, c.y)
		got, e := Screen(s, c.kind)
		expect(t, fmt.Sprintf("Screen %d at %d, %d", c.kind, c.x, c.y), got, e, showing(s, c.want[:]...))
	}
}

// Gone

// Kind 3 takes what is gone, and leaves all else; no other call touches it, and what is wiped isn't gone.
func TestGone(t *testing.T) {
	full := with(of("ab日", "c本d"), func(s *api.Screen) {
		s.Gone = slices.Repeat([][]api.Cell{cellsOf("x日")}, api.MaxHistory)
	})
	for _, s := range []api.Screen{of("ab日", "c本d"), full, with(full, func(s *api.Screen) { s.Gone = nil }), with(full, func(s *api.Screen) { s.Gone = [][]api.Cell{} })} {
		for cell := range s.G.Cells {
			from := at(s, cell%s.G.W, cell/s.G.W)
			got, e := Screen(from, 3)
			expect(t, "Screen 3", got, e, with(from, func(s *api.Screen) { s.Gone = nil }))
			for _, c := range calls(s.G.W) {
				if c.name == "Screen" && c.n == 3 {
					continue
				}
				if got, e := c.of(from); e != api.OK || !equal(api.Screen{Gone: got.Gone}, api.Screen{Gone: from.Gone}) {
					t.Errorf("%v: gone is %v, %d, want %v", c, got.Gone, e, from.Gone)
				}
			}
		}
	}
}

// Chars

func TestChars(t *testing.T) {
	for _, c := range []struct {
		n, x int
		want string
	}{
		{1, 0, ".bcde"}, {1, 2, "ab.de"}, {1, 4, "abcd."},
		{2, 0, "..cde"}, {2, 2, "ab..e"}, {2, 3, "abc.."}, {2, 4, "abcd."},
		{3, 0, "...de"}, {3, 2, "ab..."}, {3, 3, "abc.."},
		{4, 0, "....e"}, {4, 1, "a...."}, {4, 2, "ab..."},
		{5, 0, "....."}, {5, 1, "a...."}, {5, 4, "abcd."},
		{6, 0, "....."}, {6, 2, "ab..."},
		{0, 0, ".bcde"}, {0, 2, "ab.de"}, {0, 4, "abcd."},
		{-1, 0, ".bcde"}, {-1, 2, "ab.de"}, {-1, 4, "abcd."}, {-5, 2, "ab.de"}, {lowest, 2, "ab.de"}, {lowest, 4, "abcd."},
		{1000, 2, "ab..."}, {1001, 2, "ab..."}, {api.MaxParam, 2, "ab..."}, {api.MaxParam + 1, 2, "ab..."},
		{most - 2, 2, "ab..."}, {most, 0, "....."}, {most, 2, "ab..."}, {most, 4, "abcd."},
	} {
		for y := range 3 {
			s := at(of("abcde", "abcde", "abcde"), c.x, y)
			got, e := Chars(s, c.n)
			expect(t, fmt.Sprintf("Chars %d at %d, %d", c.n, c.x, y), got, e, showingIn(s, y, c.want))
		}
	}
}

func TestCharsOfWideRunes(t *testing.T) {
	for _, c := range []struct {
		n, x int
		want string
	}{
		{1, 0, ".日b語"}, {1, 1, "a._b語"}, {1, 2, "a_.b語"}, {1, 3, "a日.語"}, {1, 4, "a日b._"}, {1, 5, "a日b_."},
		{2, 0, ".._b語"}, {2, 1, "a..b語"}, {2, 2, "a_..語"}, {2, 3, "a日.._"}, {2, 4, "a日b.."}, {2, 5, "a日b_."},
		{3, 0, "...b語"}, {3, 1, "a...語"}, {3, 2, "a_..._"}, {3, 3, "a日..."}, {3, 4, "a日b.."},
		{4, 0, "....語"}, {4, 1, "a...._"}, {4, 2, "a_...."},
		{5, 0, "....._"}, {5, 1, "a....."},
		{6, 0, "......"}, {most, 2, "a_...."}, {most, 5, "a日b_."},
		{0, 1, "a._b語"}, {-1, 2, "a_.b語"}, {lowest, 4, "a日b._"},
	} {
		for y := range 3 {
			s := at(of("a日b語", "a日b語", "a日b語"), c.x, y)
			got, e := Chars(s, c.n)
			expect(t, fmt.Sprintf("Chars %d at %d, %d", c.n, c.x, y), got, e, showingIn(s, y, c.want))
		}
	}
}

// One rune that is cut at its right half, and another one at its left half, each with a look of its own: neither gets another one's.
func TestHalvesKeepTheirLooks(t *testing.T) {
	one, other := api.Style{Fore: 1, Back: 256, Bits: 127}, api.Style{Back: 5}
	s := at(of("日本"), 1, 0)
	s.G.Cells = []api.Cell{{R: '日', S: one}, {S: one}, {R: '本', S: other}, {S: other}}
	got, e := Chars(s, 2)
	blank := api.Cell{R: ' ', S: api.Style{Back: red.Back}}
	expect(t, "Chars", got, e, with(s, func(s *api.Screen) {
		s.G.Cells = []api.Cell{{R: ' ', S: one}, blank, blank, {R: ' ', S: other}}
	}))
}

// Looks

// A blank has S's background, and nothing else of S.
func TestBlanks(t *testing.T) {
	for _, c := range []struct{ look, blank api.Style }{
		{api.Style{}, api.Style{}},
		{api.Style{Back: 1}, api.Style{Back: 1}},
		{api.Style{Back: api.MaxColour}, api.Style{Back: api.MaxColour}},
		{api.Style{Fore: 7}, api.Style{}},
		{api.Style{Fore: api.MaxColour, Back: 8}, api.Style{Back: 8}},
		{api.Style{Bits: api.Bold}, api.Style{}},
		{api.Style{Bits: api.Reverse}, api.Style{}},
		{api.Style{Bits: 127}, api.Style{}},
		{api.Style{Back: 3, Bits: api.Reverse | api.Strike}, api.Style{Back: 3}},
		{api.Style{Fore: 5, Back: 6, Bits: 127}, api.Style{Back: 6}},
	} {
		s := with(at(of("abc", "def"), 0, 0), func(s *api.Screen) { s.S = c.look })
		row := with(s, func(s *api.Screen) {
			for x := range 3 {
				s.G.Cells[x] = api.Cell{R: ' ', S: c.blank}
			}
		})
		all := with(s, func(s *api.Screen) {
			for i := range s.G.Cells {
				s.G.Cells[i] = api.Cell{R: ' ', S: c.blank}
			}
		})
		for _, kind := range []int{-1, 0, 2} {
			got, e := Line(s, kind)
			expect(t, fmt.Sprint("Line ", kind), got, e, row)
			got, e = Screen(s, kind)
			expect(t, fmt.Sprint("Screen ", kind), got, e, all)
		}
		got, e := Line(at(s, 2, 0), 1)
		expect(t, "Line 1", got, e, at(row, 2, 0))
		got, e = Screen(at(s, 2, 1), 1)
		expect(t, "Screen 1", got, e, at(all, 2, 1))
		got, e = Chars(s, 3)
		expect(t, "Chars", got, e, row)
	}
}

// Late

// Line, Chars and Screen up to 2 end Late, Line also where it clears nothing; Screen 3 doesn't, nor does one above, which does nothing at all.
func TestLate(t *testing.T) {
	for _, y := range []int{0, 1, 2} {
		s := late(at(of("abc", "def", "ghi"), 0, y))
		for _, c := range calls(3) {
			stays := c.name == "Screen" && c.n >= 3
			if got, e := c.of(s); e != api.OK || got.Late != stays {
				t.Errorf("%v in row %d: Late is %v, %d", c, y, got.Late, e)
			}
		}
		for _, kind := range []int{3, 4, most} {
			got, e := Line(s, kind)
			expect(t, fmt.Sprint("Line ", kind), got, e, inTime(s))
		}
		for _, kind := range []int{4, 5, most} {
			got, e := Screen(s, kind)
			expect(t, fmt.Sprint("Screen ", kind), got, e, s)
		}
		got, e := Screen(s, 3)
		expect(t, "Screen 3", got, e, with(s, func(s *api.Screen) { s.Gone = nil }))
		got, e = Line(s, 0)
		expect(t, "Line 0", got, e, inTime(showingIn(s, y, []string{"ab.", "de.", "gh."}[y])))
		got, e = Chars(s, 2)
		expect(t, "Chars 2", got, e, inTime(showingIn(s, y, []string{"ab.", "de.", "gh."}[y])))
	}
}

// The next rune goes where the cursor stands; where Late stayed, to the next row.
func TestPrintBehindAWipe(t *testing.T) {
	s, _ := put.New(3, 2)
	s, _ = put.Text(s, "abc")
	for _, c := range calls(3) {
		got, _ := c.of(s)
		got, _ = put.Text(got, "x")
		cell := 2
		if c.name == "Screen" && c.n >= 3 {
			cell = 3
		}
		if got.G.Cells[cell].R != 'x' {
			t.Errorf("%v: x isn't in cell %d of %v", c, cell, got.G.Cells)
		}
	}
}

// The model: the chapter's words, cell by cell.

// clears: does c clear the cell x, y of s?
func (c call) clears(s api.Screen, x, y int) bool {
	inRow := y == s.Y
	switch {
	case c.name == "Chars":
		return inRow && x >= s.X && (x == s.X || x-s.X < c.n)
	case c.n > 2:
		return false
	case c.n == 2:
		return inRow || c.name == "Screen"
	case c.n == 1:
		return inRow && x <= s.X || y < s.Y && c.name == "Screen"
	}
	return inRow && x >= s.X || y > s.Y && c.name == "Screen"
}

// model: what c makes of s.
func (c call) model(s api.Screen) api.Screen {
	return with(s, func(out *api.Screen) {
		for i, cell := range s.G.Cells {
			x, y := i%s.G.W, i/s.G.W
			partner := x
			if cell.R == 0 {
				partner = x - 1
			} else if text.Width(cell.R) == 2 {
				partner = x + 1
			}
			switch {
			case c.clears(s, x, y):
				out.G.Cells[i] = api.Cell{R: ' ', S: api.Style{Back: s.S.Back}}
			case c.clears(s, partner, y):
				out.G.Cells[i].R = ' '
			}
		}
		if c.name != "Screen" || c.n < 3 {
			out.Late = false
		} else if c.n == 3 {
			out.Gone = nil
		}
	})
}

// tilings: all rows of a width that narrow and wide runes make.
func tilings(w int) []string {
	if w == 0 {
		return []string{""}
	}
	var all []string
	for _, row := range tilings(w - 1) {
		all = append(all, row+string(rune('a'+w)))
	}
	if w > 1 {
		for _, row := range tilings(w - 2) {
			all = append(all, row+string(rune('日'+w)))
		}
	}
	return all
}

// rightScreens: of some sizes, narrow and wide runes in all ways in their first two rows, each rune in a look of its own.
func rightScreens() []api.Screen {
	var all []api.Screen
	for _, size := range [][2]int{{1, 1}, {2, 1}, {3, 1}, {4, 1}, {6, 1}, {1, 2}, {1, 4}, {2, 2}, {3, 2}, {2, 3}, {3, 3}, {4, 3}} {
		rows := tilings(size[0])
		for i := range rows {
			for j := range rows {
				screen := slices.Repeat([]string{rows[i], rows[j]}, size[1])[:size[1]]
				if size[1] > 1 || j == 0 {
					all = append(all, coloured(of(screen...)))
				}
			}
		}
	}
	return all
}

func coloured(s api.Screen) api.Screen {
	return with(s, func(s *api.Screen) {
		for i := range s.G.Cells {
			s.G.Cells[i].S = api.Style{Fore: i + 1, Back: 2 * i, Bits: i}
			if s.G.Cells[i].R == 0 {
				s.G.Cells[i].S = s.G.Cells[i-1].S
			}
		}
	})
}

// statesOf s: with other modes, with other rows that scroll, without a background, and late.
func statesOf(s api.Screen) []api.Screen {
	all := []api.Screen{
		s,
		with(s, func(s *api.Screen) { s.Modes, s.S = 0, api.Style{Fore: 3} }),
		with(s, func(s *api.Screen) { s.Modes, s.S = 63, api.Style{Back: 256} }),
	}
	if s.G.H > 2 {
		all = append(all,
			with(s, func(s *api.Screen) { s.Top, s.Modes = 1, s.Modes|api.Origin }),
			with(s, func(s *api.Screen) { s.Bottom = 1 }))
	}
	if s.X == s.G.W-1 {
		all = append(all, late(s))
	}
	return all
}

func TestModel(t *testing.T) {
	for _, s := range rightScreens() {
		for cell := range s.G.Cells {
			for _, from := range statesOf(at(s, cell%s.G.W, cell/s.G.W)) {
				for _, c := range calls(s.G.W) {
					got, e := c.of(from)
					expect(t, c.String(), got, e, c.model(from))
				}
			}
		}
	}
}

func TestGreatest(t *testing.T) {
	s := of(slices.Repeat([]string{"a" + strings.Repeat("日", api.MaxWide/2-1) + "b"}, api.MaxHigh)...)
	right, down := api.MaxWide-1, api.MaxHigh-1
	for _, from := range []api.Screen{s, at(s, right, 0), at(s, 0, down), at(s, right, down), at(s, 60, 30), at(s, 61, 31), late(at(s, 0, 30))} {
		for _, c := range calls(api.MaxWide) {
			got, e := c.of(from)
			expect(t, c.String(), got, e, c.model(from))
		}
	}
}

// Wrong inputs

// fault: one thing that Check refuses, and its error.
type fault struct {
	what string
	want api.Errno
	set  func(*api.Screen)
}

// base: what is right, and is made wrong by a fault.
func base() api.Screen { return of("ab日", "日cd", "efgh") }

// faults in the order in which Check tells them, by groups: of those of one group none goes ahead of another.
func faults() [][]fault {
	return [][]fault{
		gridFaults(), placeFaults(),
		{
			{"late ahead of the last column", api.ErrForm, func(s *api.Screen) { s.X, s.Late = 2, true }},
			{"late in the first column", api.ErrForm, func(s *api.Screen) { s.X, s.Late = 0, true }},
			{"late without Wrap", api.ErrForm, func(s *api.Screen) { s.X, s.Late, s.Modes = 3, true, 63&^api.Wrap }},
		},
		lookFaults(), formFaults(),
		{
			{"too many rows gone", api.ErrMany, func(s *api.Screen) {
				s.Gone = slices.Repeat([][]api.Cell{{{R: 'a'}}}, api.MaxHistory+1)
			}},
		}, {
			{"a gone row without cells", api.ErrForm, func(s *api.Screen) { s.Gone[1] = nil }},
			{"a gone row that is too long", api.ErrForm, func(s *api.Screen) { s.Gone[0] = slices.Repeat(s.Gone[0], api.MaxWide+1) }},
			{"a wrong rune in a gone row", api.ErrForm, func(s *api.Screen) { s.Gone[0][0].R = '\t' }},
			{"a wrong style in a gone row", api.ErrForm, func(s *api.Screen) { s.Gone[0][0].S = wrong }},
			{"a left half in a gone row", api.ErrForm, func(s *api.Screen) { s.Gone[1] = s.Gone[1][:1] }},
			{"a right half in a gone row", api.ErrForm, func(s *api.Screen) { s.Gone[1] = s.Gone[1][1:] }},
		},
	}
}

func gridFaults() []fault {
	return []fault{
		{"no cells at all", api.ErrSize, func(s *api.Screen) { s.G = api.Grid{} }},
		{"no width", api.ErrSize, func(s *api.Screen) { s.G.W = 0 }},
		{"a width below 0", api.ErrSize, func(s *api.Screen) { s.G.W = -4 }},
		{"no height", api.ErrSize, func(s *api.Screen) { s.G.H = 0 }},
		{"width and height below 0", api.ErrSize, func(s *api.Screen) { s.G.W, s.G.H = -4, -3 }},
		{"a cell too few", api.ErrSize, func(s *api.Screen) { s.G.Cells = s.G.Cells[1:] }},
		{"a cell too many", api.ErrSize, func(s *api.Screen) { s.G.Cells = append(s.G.Cells, api.Cell{R: ' '}) }},
		{"too many columns", api.ErrSize, func(s *api.Screen) {
			s.G.W, s.G.Cells = api.MaxWide+1, slices.Repeat([]api.Cell{{R: ' '}}, 3*(api.MaxWide+1))
		}},
		{"too many rows", api.ErrSize, func(s *api.Screen) {
			s.G.H, s.G.Cells = api.MaxHigh+1, slices.Repeat([]api.Cell{{R: ' '}}, 4*(api.MaxHigh+1))
		}},
		{"a wrong rune first", api.ErrRange, func(s *api.Screen) { s.G.Cells[0].R = '\n' }},
		{"a wrong rune last", api.ErrRange, func(s *api.Screen) { s.G.Cells[11].R = 0x301 }},
		{"a wrong style first", api.ErrRange, func(s *api.Screen) { s.G.Cells[0].S = wrong }},
		{"a wrong style last", api.ErrRange, func(s *api.Screen) { s.G.Cells[11].S = wrong }},
		{"a right half alone", api.ErrForm, func(s *api.Screen) { s.G.Cells[0].R = 0 }},
		{"a left half alone", api.ErrForm, func(s *api.Screen) { s.G.Cells[11].R = '日' }},
		{"halves that look different", api.ErrForm, func(s *api.Screen) { s.G.Cells[3].S = red }},
	}
}

func placeFaults() []fault {
	return []fault{
		{"X below 0", api.ErrRange, func(s *api.Screen) { s.X = -1 }},
		{"X at W", api.ErrRange, func(s *api.Screen) { s.X = 4 }},
		{"X as low as can be", api.ErrRange, func(s *api.Screen) { s.X = lowest }},
		{"X as high as can be", api.ErrRange, func(s *api.Screen) { s.X = most }},
		{"Y below 0", api.ErrRange, func(s *api.Screen) { s.Y = -1 }},
		{"Y at H", api.ErrRange, func(s *api.Screen) { s.Y = 3 }},
		{"Y as low as can be", api.ErrRange, func(s *api.Screen) { s.Y = lowest }},
		{"Y as high as can be", api.ErrRange, func(s *api.Screen) { s.Y = most }},
		{"K.X below 0", api.ErrRange, func(s *api.Screen) { s.K.X = -1 }},
		{"K.X at W", api.ErrRange, func(s *api.Screen) { s.K.X = 4 }},
		{"K.Y below 0", api.ErrRange, func(s *api.Screen) { s.K.Y = -1 }},
		{"K.Y at H", api.ErrRange, func(s *api.Screen) { s.K.Y = 3 }},
		{"Top below 0", api.ErrRange, func(s *api.Screen) { s.Top = -1 }},
		{"Top at Bottom", api.ErrRange, func(s *api.Screen) { s.Top, s.Bottom = 1, 1 }},
		{"Top behind Bottom", api.ErrRange, func(s *api.Screen) { s.Top, s.Bottom = 2, 1 }},
		{"Bottom at H", api.ErrRange, func(s *api.Screen) { s.Bottom = 3 }},
		{"Bottom below 0", api.ErrRange, func(s *api.Screen) { s.Bottom = -1 }},
	}
}

func lookFaults() []fault {
	return []fault{
		{"no style", api.ErrRange, func(s *api.Screen) { s.S = wrong }},
		{"no background", api.ErrRange, func(s *api.Screen) { s.S = api.Style{Back: -1} }},
		{"wrong bits", api.ErrRange, func(s *api.Screen) { s.S = api.Style{Bits: 128} }},
		{"no kept style", api.ErrRange, func(s *api.Screen) { s.K.S = wrong }},
		{"modes below 0", api.ErrRange, func(s *api.Screen) { s.Modes = -1 }},
		{"modes above 63", api.ErrRange, func(s *api.Screen) { s.Modes = 64 }},
		{"kept Insert", api.ErrRange, func(s *api.Screen) { s.K.Modes = api.Insert }},
		{"kept modes below 0", api.ErrRange, func(s *api.Screen) { s.K.Modes = -1 }},
	}
}

func formFaults() []fault {
	return []fault{
		{"no tabs", api.ErrForm, func(s *api.Screen) { s.Tabs = nil }},
		{"a tab too few", api.ErrForm, func(s *api.Screen) { s.Tabs = s.Tabs[1:] }},
		{"a tab too many", api.ErrForm, func(s *api.Screen) { s.Tabs = make([]bool, 5) }},
		{"a last rune on another", api.ErrForm, func(s *api.Screen) { s.Last = 0x301 }},
		{"a last rune below all", api.ErrForm, func(s *api.Screen) { s.Last = -1 }},
		{"a last rune above all", api.ErrForm, func(s *api.Screen) { s.Last = utf8.MaxRune + 1 }},
		{"a title that isn't clean", api.ErrForm, func(s *api.Screen) { s.Title = "a\tb" }},
		{"a title that is too long", api.ErrForm, func(s *api.Screen) { s.Title = strings.Repeat("日", api.MaxTitle+1) }},
	}
}

// Whatever a call is to clear, even if that is what is wrong, and if it is to do nothing, it tells Check's error, and nothing else.
func TestWrongScreens(t *testing.T) {
	for _, f := range slices.Concat(faults()...) {
		s := with(base(), f.set)
		for _, c := range calls(4) {
			got, e := c.of(s)
			if e != f.want || !reflect.DeepEqual(got, api.Screen{}) {
				t.Errorf("%v of a screen with %s: %+v, %d, want nothing, %d", c, f.what, got, e, f.want)
			}
		}
	}
	for _, c := range calls(4) {
		if got, e := c.of(api.Screen{}); e != api.ErrSize || !reflect.DeepEqual(got, api.Screen{}) {
			t.Errorf("%v of no screen: %+v, %d", c, got, e)
		}
	}
}

// Of two faults the one that Check tells first is told.
func TestWrongTwice(t *testing.T) {
	all := faults()
	for i, group := range all {
		for _, f := range group {
			for _, g := range slices.Concat(all[i+1:]...) {
				s := with(with(base(), g.set), f.set)
				for _, c := range calls(4) {
					if _, e := c.of(s); e != f.want {
						t.Errorf("%v of a screen with %s, and %s: %d, want %d", c, f.what, g.what, e, f.want)
					}
				}
			}
		}
	}
}

// P2

// roomy: s, each list with spare room behind it that has something in it; and whether all of it, the spare room, too, is as it was.
func roomy(s api.Screen) (api.Screen, func() bool) {
	mark := api.Cell{R: 'M', S: red}
	whole := copyOf(s)
	whole.G.Cells = append(whole.G.Cells, mark, mark)
	whole.Tabs = append(whole.Tabs, true, false)
	var rows [][]api.Cell
	for _, row := range whole.Gone {
		rows = append(rows, append(row, mark, mark))
	}
	whole.Gone = append(slices.Clone(rows), []api.Cell{mark}, []api.Cell{mark})
	for i := range rows {
		whole.Gone[i] = rows[i][:len(rows[i])-2]
	}
	before, rowsBefore := copyOf(whole), copyOf(api.Screen{Gone: rows})
	in := whole
	in.G.Cells = in.G.Cells[:len(s.G.Cells)]
	in.Tabs = in.Tabs[:len(s.Tabs)]
	in.Gone = in.Gone[:len(s.Gone)]
	return in, func() bool {
		return equal(whole, before) && equal(api.Screen{Gone: rows}, rowsBefore)
	}
}

// spoil writes over all that s has, the spare room, too.
func spoil(s api.Screen) {
	for _, row := range append([][]api.Cell{s.G.Cells}, s.Gone...) {
		row = row[:cap(row)]
		for i := range row {
			row[i] = api.Cell{R: '!'}
		}
	}
	tabs := s.Tabs[:cap(s.Tabs)]
	for i := range tabs {
		tabs[i] = !tabs[i]
	}
	clear(s.Gone[:cap(s.Gone)])
}

func TestHandedInIsOnlyRead(t *testing.T) {
	some := at(base(), 2, 1)
	for _, s := range []api.Screen{some, at(some, 1, 1), at(some, 3, 0), late(some), with(some, func(s *api.Screen) { s.Gone = nil })} {
		for _, c := range calls(4) {
			in, same := roomy(s)
			got, e := c.of(in)
			if e != api.OK || !same() {
				t.Errorf("%v of %+v changes what it was handed", c, s)
			}
			spoil(got)
			if !same() {
				t.Errorf("%v of %+v shares what it answers with what it was handed", c, s)
			}
		}
	}
	for _, f := range slices.Concat(faults()...) {
		for _, c := range calls(4) {
			in, same := roomy(with(some, f.set))
			if c.of(in); !same() {
				t.Errorf("%v of a screen with %s changes what it was handed", c, f.what)
			}
		}
	}
}

// No list of an answer shares memory with another one, even if those that were handed in do: each is written over, and its spare room, and the others stay.
func TestListsOfAnAnswerShareNothing(t *testing.T) {
	s := at(of("abcd", "efgh", "ijkl"), 2, 1)
	s.Gone = [][]api.Cell{s.G.Cells[:4], s.G.Cells[:4], s.G.Cells[2:7]}
	for _, c := range calls(4) {
		got, _ := c.of(s)
		for i, one := range append([][]api.Cell{got.G.Cells}, got.Gone...) {
			before, kept := copyOf(got), slices.Clone(one)
			room := one[:cap(one)]
			for j := range room {
				room[j] = api.Cell{R: '!'}
			}
			others := copyOf(got)
			if i == 0 {
				others.G.Cells = kept
			} else {
				others.Gone[i-1] = kept
			}
			if !equal(others, before) {
				t.Errorf("%v: list %d shares memory with another one", c, i)
			}
			copy(one, kept)
		}
	}
}
