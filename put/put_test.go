package put

import (
	"math"
	"reflect"
	"slices"
	"strings"
	"testing"
	"unicode/utf8"

	"trellis/api"
	"trellis/grid"
	"trellis/text"
)

var (
	red   = api.Style{Back: 2, Bits: api.Bold}
	green = api.Style{Fore: 3}
	wrong = api.Style{Fore: api.MaxColour + 1}
)

// cellsOf s, in one style.
func cellsOf(look api.Style, s string) []api.Cell {
	var cells []api.Cell
	for _, r := range s {
		cells = append(cells, api.Cell{R: r, S: look})
		if text.Width(r) == 2 {
			cells = append(cells, api.Cell{S: look})
		}
	}
	return cells
}

// of: a screen with these rows, which are equally wide, without any call of this package.
func of(look api.Style, rows ...string) api.Screen {
	g := api.Grid{H: len(rows)}
	for _, s := range rows {
		row := cellsOf(look, s)
		g.W = len(row)
		g.Cells = append(g.Cells, row...)
	}
	return api.Screen{G: g, Bottom: g.H - 1, Modes: api.Wrap, K: api.Kept{Modes: api.Wrap}, Tabs: make([]bool, g.W)}
}

// with: s, and some of it otherwise.
func with(s api.Screen, set func(*api.Screen)) api.Screen {
	set(&s)
	return s
}

// rowsOf s, as texts, R 0 left out, blanks at the end not.
func rowsOf(s api.Screen) []string {
	rows := make([]string, s.G.H)
	for i, c := range s.G.Cells {
		if c.R != 0 {
			rows[i/s.G.W] += string(c.R)
		}
	}
	return rows
}

func textOf(row []api.Cell) string {
	return rowsOf(api.Screen{G: api.Grid{W: len(row), H: 1, Cells: row}})[0]
}

// copyOf s, which shares nothing with it, with the lists that have nothing in them nil.
func copyOf(s api.Screen) api.Screen {
	s.G.Cells = append([]api.Cell(nil), s.G.Cells...)
	s.Tabs = append([]bool(nil), s.Tabs...)
	gone := s.Gone
	s.Gone = nil
	for _, row := range gone {
		s.Gone = append(s.Gone, append([]api.Cell(nil), row...))
	}
	return s
}

func equal(a, b api.Screen) bool { return reflect.DeepEqual(copyOf(a), copyOf(b)) }

// expect: got and e are what was to be answered, and right.
func expect(t *testing.T, what string, got api.Screen, e api.Errno, want api.Screen) {
	t.Helper()
	if e != api.OK || !equal(got, want) {
		t.Errorf("%s: %+v, %d, want %+v, 0", what, got, e, want)
	}
	if e := Check(got); e != api.OK {
		t.Errorf("%s: what is answered doesn't pass Check: %d", what, e)
	}
}

// refuse: nothing but the error is answered.
func refuse(t *testing.T, what string, got api.Screen, e, want api.Errno) {
	t.Helper()
	if e != want || !reflect.DeepEqual(got, api.Screen{}) {
		t.Errorf("%s: %+v, %d, want nothing, %d", what, got, e, want)
	}
}

// The model: what the chapter tells, word by word, on cells that are found by their row and column.

type model struct {
	api.Screen
}

func (m *model) row(y int) []api.Cell { return m.G.Cells[y*m.G.W : (y+1)*m.G.W] }

func mendRow(cells []api.Cell) {
	for i := range cells {
		halfBehind := i+1 < len(cells) && cells[i+1].R == 0
		wideAhead := i > 0 && text.Width(cells[i-1].R) == 2
		if text.Width(cells[i].R) == 2 && !halfBehind || cells[i].R == 0 && !wideAhead {
			cells[i].R = ' '
		}
	}
}

func (m *model) up() {
	if m.Top == 0 {
		m.Gone = append(m.Gone, append([]api.Cell(nil), m.row(0)...))
		if len(m.Gone) > 50 {
			m.Gone = m.Gone[1:]
		}
	}
	for y := m.Top; y < m.Bottom; y++ {
		copy(m.row(y), m.row(y+1))
	}
	for x := range m.row(m.Bottom) {
		m.row(m.Bottom)[x] = api.Cell{R: ' ', S: api.Style{Back: m.S.Back}}
	}
}

func (m *model) feed() {
	m.Late = false
	if m.Y == m.Bottom {
		m.up()
	} else if m.Y != m.G.H-1 {
		m.Y++
	}
}

func (m *model) print(r rune) {
	w := text.Width(r)
	if w == 0 || w > m.G.W {
		return
	}
	if m.Late || m.Modes&api.Wrap != 0 && m.X+w > m.G.W {
		m.X = 0
		m.feed()
	}
	if m.X+w > m.G.W {
		return
	}
	row := m.row(m.Y)
	if m.Modes&api.Insert != 0 {
		for x := m.G.W - 1; x >= m.X+w; x-- {
			row[x] = row[x-w]
		}
	}
	row[m.X] = api.Cell{R: r, S: m.S}
	if w == 2 {
		row[m.X+1] = api.Cell{R: 0, S: m.S}
	}
	mendRow(row)
	m.X += w
	if m.X == m.G.W {
		m.X, m.Late = m.G.W-1, m.Modes&api.Wrap != 0
	}
	m.Last = r
}

func modelText(s api.Screen, runes ...rune) api.Screen {
	m := model{copyOf(s)}
	for _, r := range runes {
		m.print(r)
	}
	return m.Screen
}

// rightScreens: screens at the edges of all that they have, on grids of some sizes, each place of them the cursor's.
func rightScreens() []api.Screen {
	var all []api.Screen
	for _, g := range []api.Screen{
		of(red, "a"),
		of(green, "日"), of(green, "ab"), of(red, "日b"), of(red, "a日"),
		of(red, "日本", "a日b", "abcd"), of(green, "a", "b", "c"), of(red, "日", "ab"),
		with(of(green, "日b本", "a本日"), func(s *api.Screen) { copy(s.G.Cells, cellsOf(red, "本")) }),
	} {
		for y := range g.G.H {
			for x := range g.G.W {
				all = append(all, statesAt(g, x, y)...)
			}
		}
	}
	return all
}

// statesAt: s with its cursor there, with and without Insert, Wrap and Late, and with all regions that may scroll.
func statesAt(s api.Screen, x, y int) []api.Screen {
	var all []api.Screen
	for top := range s.G.H {
		for bottom := top; bottom < s.G.H; bottom++ {
			if top == bottom && s.G.H > 1 {
				continue
			}
			for modes := range 64 {
				if modes&^(api.Insert|api.Wrap) != 0 && modes != 63 {
					continue
				}
				one := with(s, func(s *api.Screen) {
					s.X, s.Y, s.Top, s.Bottom, s.Modes = x, y, top, bottom, modes
					s.S = api.Style{Fore: 1, Back: 5, Bits: api.Under}
					s.Gone = [][]api.Cell{cellsOf(red, "old日")}
				})
				all = append(all, one)
				if modes&api.Wrap != 0 && x == s.G.W-1 {
					all = append(all, with(one, func(s *api.Screen) { s.Late = true }))
				}
			}
		}
	}
	return all
}

// P5.1

func TestCheckRight(t *testing.T) {
	full := of(red, "ab日", "日cd", "    ")
	for _, c := range []struct {
		what string
		set  func(*api.Screen)
	}{
		{"nothing more", func(s *api.Screen) {}},
		{"the last cell", func(s *api.Screen) { s.X, s.Y, s.K.X, s.K.Y = 3, 2, 3, 2 }},
		{"late", func(s *api.Screen) { s.X, s.Late = 3, true }},
		{"a region above", func(s *api.Screen) { s.Bottom = 1 }},
		{"a region below", func(s *api.Screen) { s.Top = 1 }},
		{"the cursor outside of the region", func(s *api.Screen) { s.Y, s.Top = 0, 1 }},
		{"styles", func(s *api.Screen) { s.S, s.K.S = red, api.Style{Fore: 256, Back: 256, Bits: 127} }},
		{"no modes", func(s *api.Screen) { s.Modes, s.K.Modes = 0, 0 }},
		{"all modes", func(s *api.Screen) { s.Modes, s.K.Modes = 63, api.Origin|api.Wrap }},
		{"kept origin", func(s *api.Screen) { s.K.Modes = api.Origin }},
		{"tabs", func(s *api.Screen) { s.Tabs = []bool{true, true, true, true} }},
		{"a narrow last rune", func(s *api.Screen) { s.Last = 'x' }},
		{"a wide last rune", func(s *api.Screen) { s.Last = '日' }},
		{"a title", func(s *api.Screen) { s.Title = "vi 日本 \ufffd" }},
		{"a long title", func(s *api.Screen) { s.Title = strings.Repeat("日", api.MaxTitle) }},
		{"an empty list of what is gone", func(s *api.Screen) { s.Gone = [][]api.Cell{} }},
		{"gone rows of other sizes", func(s *api.Screen) {
			s.Gone = [][]api.Cell{cellsOf(red, "a"), cellsOf(green, strings.Repeat("日", api.MaxWide/2)), cellsOf(red, "abc")}
		}},
		{"as many rows gone as may be", func(s *api.Screen) {
			s.Gone = slices.Repeat([][]api.Cell{cellsOf(red, "a日")}, api.MaxHistory)
		}},
	} {
		if e := Check(with(full, c.set)); e != api.OK {
			t.Errorf("Check of a screen with %s: %d", c.what, e)
		}
	}
	one := of(green, "日")
	if e := Check(one); e != api.OK {
		t.Errorf("Check of a screen of one row: %d", e)
	}
	if e := Check(with(one, func(s *api.Screen) { s.X, s.Late = 1, true })); e != api.OK {
		t.Errorf("Check of a late screen of one row: %d", e)
	}
}

// fault: one thing that may not be, and its error.
type fault struct {
	what string
	want api.Errno
	set  func(*api.Screen)
}

// faults in the order in which Check tells them, by groups: of those of one group none goes ahead of another.
func faults() [][]fault {
	return [][]fault{
		{
			{"too few cells", api.ErrSize, func(s *api.Screen) { s.G.Cells = s.G.Cells[1:] }},
			{"no width", api.ErrSize, func(s *api.Screen) { s.G.W = 0 }},
			{"no cells at all", api.ErrSize, func(s *api.Screen) { s.G = api.Grid{} }},
			{"too many rows", api.ErrSize, func(s *api.Screen) { s.G.H = api.MaxHigh + 1 }},
			{"a wrong rune", api.ErrRange, func(s *api.Screen) { s.G.Cells = slices.Concat([]api.Cell{{R: '\n'}}, s.G.Cells[1:]) }},
			{"half a rune", api.ErrForm, func(s *api.Screen) { s.G.Cells = slices.Concat([]api.Cell{{R: 0}}, s.G.Cells[1:]) }},
		}, {
			{"X below 0", api.ErrRange, func(s *api.Screen) { s.X = -1 }},
			{"X at W", api.ErrRange, func(s *api.Screen) { s.X = 4 }},
			{"X as low as can be", api.ErrRange, func(s *api.Screen) { s.X = math.MinInt }},
			{"X as high as can be", api.ErrRange, func(s *api.Screen) { s.X = math.MaxInt }},
			{"Y below 0", api.ErrRange, func(s *api.Screen) { s.Y = -1 }},
			{"Y at H", api.ErrRange, func(s *api.Screen) { s.Y = 3 }},
			{"Y as low as can be", api.ErrRange, func(s *api.Screen) { s.Y = math.MinInt }},
			{"Y as high as can be", api.ErrRange, func(s *api.Screen) { s.Y = math.MaxInt }},
			{"K.X below 0", api.ErrRange, func(s *api.Screen) { s.K.X = -1 }},
			{"K.X at W", api.ErrRange, func(s *api.Screen) { s.K.X = 4 }},
			{"K.Y below 0", api.ErrRange, func(s *api.Screen) { s.K.Y = -1 }},
			{"K.Y at H", api.ErrRange, func(s *api.Screen) { s.K.Y = 3 }},
			{"Top below 0", api.ErrRange, func(s *api.Screen) { s.Top = -1 }},
			{"Top at Bottom", api.ErrRange, func(s *api.Screen) { s.Top = 2 }},
			{"Top below Bottom's row", api.ErrRange, func(s *api.Screen) { s.Top, s.Bottom = 2, 1 }},
			{"Top as high as can be", api.ErrRange, func(s *api.Screen) { s.Top = math.MaxInt }},
			{"Bottom at H", api.ErrRange, func(s *api.Screen) { s.Bottom = 3 }},
			{"Bottom below 0", api.ErrRange, func(s *api.Screen) { s.Bottom = -1 }},
			{"Top and Bottom below 0", api.ErrRange, func(s *api.Screen) { s.Top, s.Bottom = -2, -1 }},
			{"Top and Bottom at H", api.ErrRange, func(s *api.Screen) { s.Top, s.Bottom = 3, 4 }},
			{"Top and Bottom at 0", api.ErrRange, func(s *api.Screen) { s.Top, s.Bottom = 0, 0 }},
		}, {
			{"late ahead of the last column", api.ErrForm, func(s *api.Screen) { s.X, s.Late = 2, true }},
			{"late in the first column", api.ErrForm, func(s *api.Screen) { s.X, s.Late = 0, true }},
			{"late without Wrap", api.ErrForm, func(s *api.Screen) { s.X, s.Late, s.Modes = 3, true, 63&^api.Wrap }},
		}, {
			{"no style", api.ErrRange, func(s *api.Screen) { s.S = wrong }},
			{"no kept style", api.ErrRange, func(s *api.Screen) { s.K.S = wrong }},
			{"modes below 0", api.ErrRange, func(s *api.Screen) { s.Modes = -1 }},
			{"modes with Wrap alone, below 0", api.ErrRange, func(s *api.Screen) { s.Modes = math.MinInt | api.Wrap }},
			{"modes above 63", api.ErrRange, func(s *api.Screen) { s.Modes = 64 | api.Wrap }},
			{"kept Insert", api.ErrRange, func(s *api.Screen) { s.K.Modes = api.Insert }},
			{"kept Hidden", api.ErrRange, func(s *api.Screen) { s.K.Modes = api.Hidden | api.Wrap }},
			{"kept Keypad", api.ErrRange, func(s *api.Screen) { s.K.Modes = api.Keypad }},
			{"kept Paste", api.ErrRange, func(s *api.Screen) { s.K.Modes = api.Paste | api.Origin }},
			{"kept modes below 0", api.ErrRange, func(s *api.Screen) { s.K.Modes = -1 }},
			{"kept modes above all", api.ErrRange, func(s *api.Screen) { s.K.Modes = 64 }},
		}, {
			{"no tabs", api.ErrForm, func(s *api.Screen) { s.Tabs = nil }},
			{"too few tabs", api.ErrForm, func(s *api.Screen) { s.Tabs = make([]bool, 3) }},
			{"too many tabs", api.ErrForm, func(s *api.Screen) { s.Tabs = make([]bool, 5) }},
			{"a control as the last rune", api.ErrForm, func(s *api.Screen) { s.Last = '\n' }},
			{"a last rune on another", api.ErrForm, func(s *api.Screen) { s.Last = 0x301 }},
			{"a last rune below all", api.ErrForm, func(s *api.Screen) { s.Last = -1 }},
			{"a last rune above all", api.ErrForm, func(s *api.Screen) { s.Last = utf8.MaxRune + 1 }},
			{"half a pair as the last rune", api.ErrForm, func(s *api.Screen) { s.Last = 0xD800 }},
			{"a title that isn't clean", api.ErrForm, func(s *api.Screen) { s.Title = "a\nb" }},
			{"a title with a wrong byte", api.ErrForm, func(s *api.Screen) { s.Title = "a\xff" }},
			{"a title with a rune on another", api.ErrForm, func(s *api.Screen) { s.Title = "e\u0301" }},
			{"a title that is too long", api.ErrForm, func(s *api.Screen) { s.Title = strings.Repeat("a", api.MaxTitle+1) }},
		}, {
			{"too many rows gone", api.ErrMany, func(s *api.Screen) {
				s.Gone = slices.Repeat([][]api.Cell{cellsOf(red, "a")}, api.MaxHistory+1)
			}},
			{"too many rows gone, which are wrong", api.ErrMany, func(s *api.Screen) { s.Gone = make([][]api.Cell, api.MaxHistory+1) }},
		}, {
			{"no cell in a gone row", api.ErrForm, func(s *api.Screen) { s.Gone = [][]api.Cell{cellsOf(red, "a"), {}} }},
			{"no list in a gone row", api.ErrForm, func(s *api.Screen) { s.Gone = [][]api.Cell{nil} }},
			{"a gone row that is too long", api.ErrForm, func(s *api.Screen) {
				s.Gone = [][]api.Cell{cellsOf(red, strings.Repeat("a", api.MaxWide+1))}
			}},
			{"a wrong rune in a gone row", api.ErrForm, func(s *api.Screen) { s.Gone = [][]api.Cell{cellsOf(red, "a\n")} }},
			{"no style in a gone row", api.ErrForm, func(s *api.Screen) { s.Gone = [][]api.Cell{cellsOf(wrong, "a")} }},
			{"half a rune in the last gone row", api.ErrForm, func(s *api.Screen) {
				s.Gone = append(slices.Repeat([][]api.Cell{cellsOf(red, "a")}, api.MaxHistory-1), cellsOf(red, "日")[1:])
			}},
		},
	}
}

func base() api.Screen { return of(red, "ab日", "日cd", "    ") }

// each call that is given a screen.
func calls() []struct {
	name string
	call func(api.Screen) (api.Screen, api.Errno)
} {
	return []struct {
		name string
		call func(api.Screen) (api.Screen, api.Errno)
	}{
		{"Text", func(s api.Screen) (api.Screen, api.Errno) { return Text(s, "a日b") }},
		{"Text of nothing", func(s api.Screen) (api.Screen, api.Errno) { return Text(s, "") }},
		{"Again", func(s api.Screen) (api.Screen, api.Errno) { return Again(s, 3) }},
		{"Again of less than one", func(s api.Screen) (api.Screen, api.Errno) { return Again(s, math.MinInt) }},
	}
}

func TestCheckWrong(t *testing.T) {
	for _, group := range faults() {
		for _, f := range group {
			s := with(base(), f.set)
			if e := Check(s); e != f.want {
				t.Errorf("Check of %s: %d, want %d", f.what, e, f.want)
			}
			for _, c := range calls() {
				got, e := c.call(s)
				refuse(t, c.name+" of a screen with "+f.what, got, e, f.want)
			}
		}
	}
}

// Of two faults the one that is told first is the answer.
func TestCheckOrder(t *testing.T) {
	all := faults()
	for i, group := range all {
		for _, later := range all[i+1:] {
			for _, f := range group {
				for _, g := range later {
					s := with(base(), g.set)
					f.set(&s)
					if e := Check(s); e != f.want {
						t.Errorf("Check of %s, and %s: %d, want %d", f.what, g.what, e, f.want)
					}
				}
			}
		}
	}
}

func TestCheckOneRow(t *testing.T) {
	for _, c := range []struct {
		top, bottom int
		want        api.Errno
	}{{0, 0, api.OK}, {-1, 0, api.ErrRange}, {0, 1, api.ErrRange}, {1, 1, api.ErrRange}, {-1, -1, api.ErrRange}, {0, -1, api.ErrRange}} {
		s := with(of(red, "ab"), func(s *api.Screen) { s.Top, s.Bottom = c.top, c.bottom })
		if e := Check(s); e != c.want {
			t.Errorf("Check of one row with Top %d and Bottom %d: %d, want %d", c.top, c.bottom, e, c.want)
		}
	}
}

func TestNew(t *testing.T) {
	for _, size := range [][2]int{{1, 1}, {2, 1}, {8, 2}, {9, 3}, {16, 1}, {17, 1}, {api.MaxWide, 1}, {1, api.MaxHigh}, {api.MaxWide, api.MaxHigh}} {
		w, h := size[0], size[1]
		want := api.Screen{
			G:      api.Grid{W: w, H: h, Cells: slices.Repeat([]api.Cell{{R: ' '}}, w*h)},
			Bottom: h - 1,
			Modes:  api.Wrap,
			K:      api.Kept{Modes: api.Wrap},
			Tabs:   make([]bool, w),
		}
		for _, x := range []int{8, 16, 24, 32, 40, 48, 56, 64, 72, 80, 88, 96, 104, 112} {
			if x < w {
				want.Tabs[x] = true
			}
		}
		got, e := New(w, h)
		expect(t, "New", got, e, want)
	}
}

func TestNewWrong(t *testing.T) {
	for _, n := range []int{math.MinInt, -1, 0, math.MaxInt} {
		for _, size := range [][2]int{{n, 1}, {1, n}, {n, n}} {
			got, e := New(size[0], size[1])
			refuse(t, "New", got, e, api.ErrSize)
		}
	}
	for _, size := range [][2]int{{api.MaxWide + 1, 1}, {1, api.MaxHigh + 1}, {1 << 32, 1 << 32}} {
		got, e := New(size[0], size[1])
		refuse(t, "New", got, e, api.ErrSize)
	}
}

// P5.2

// told: what a test asks of a screen.
type told struct {
	rows []string
	x, y int
	late bool
	gone []string
	last rune
}

func tell(s api.Screen) told {
	out := told{rows: rowsOf(s), x: s.X, y: s.Y, late: s.Late, last: s.Last}
	for _, row := range s.Gone {
		out.gone = append(out.gone, textOf(row))
	}
	return out
}

func TestText(t *testing.T) {
	blank := of(api.Style{}, "   ", "   ")
	none := func(s *api.Screen) {}
	for _, c := range []struct {
		what string
		s    api.Screen
		set  func(*api.Screen)
		text string
		want told
	}{
		{"nothing", blank, none, "", told{rows: []string{"   ", "   "}}},
		{"one rune", blank, none, "a", told{rows: []string{"a  ", "   "}, x: 1, last: 'a'}},
		{"a wide rune", blank, none, "日", told{rows: []string{"日 ", "   "}, x: 2, last: '日'}},
		{"up to the last column", blank, none, "abc", told{rows: []string{"abc", "   "}, x: 2, late: true, last: 'c'}},
		{"a wide rune in the last column", blank, none, "a日", told{rows: []string{"a日", "   "}, x: 2, late: true, last: '日'}},
		{"behind the last column", blank, none, "abcd", told{rows: []string{"abc", "d  "}, x: 1, y: 1, last: 'd'}},
		{"a wide rune without room", blank, none, "ab日", told{rows: []string{"ab ", "日 "}, x: 2, y: 1, last: '日'}},
		{"the whole screen", blank, none, "abcdef", told{rows: []string{"abc", "def"}, x: 2, y: 1, late: true, last: 'f'}},
		{"more than the screen", blank, none, "abcdefg", told{rows: []string{"def", "g  "}, x: 1, y: 1, gone: []string{"abc"}, last: 'g'}},
		{"much more", blank, none, "abcdefghij", told{rows: []string{"ghi", "j  "}, x: 1, y: 1, gone: []string{"abc", "def"}, last: 'j'}},
		{"what takes no cell", blank, none, "a\n\x00\x1b\u0301\x7f\u200bb", told{rows: []string{"ab ", "   "}, x: 2, last: 'b'}},
		{"what takes no cell, last", blank, none, "ab\u0301", told{rows: []string{"ab ", "   "}, x: 2, last: 'b'}},
		{"what takes no cell, while late", blank, none, "abc\u0301\n", told{rows: []string{"abc", "   "}, x: 2, late: true, last: 'c'}},
		{"wrong bytes", blank, none, "\xffa\xe6\x97", told{rows: []string{"\ufffda\ufffd", "\ufffd  "}, x: 1, y: 1, last: 0xFFFD}},
		{"without Wrap", blank, func(s *api.Screen) { s.Modes = 0 }, "abcde", told{rows: []string{"abe", "   "}, x: 2, last: 'e'}},
		{"without Wrap, without room", blank, func(s *api.Screen) { s.Modes = 0 }, "ab日", told{rows: []string{"ab ", "   "}, x: 2, last: 'b'}},
		{"without Wrap, room again", blank, func(s *api.Screen) { s.Modes, s.X, s.Last = 0, 2, 'q' }, "日", told{rows: []string{"   ", "   "}, x: 2, last: 'q'}},
		{"upon half a rune", of(red, "日a", "   "), none, "x", told{rows: []string{"x a", "   "}, x: 1, last: 'x'}},
		{"upon the other half", of(red, "日a", "   "), func(s *api.Screen) { s.X = 1 }, "x", told{rows: []string{" xa", "   "}, x: 2, last: 'x'}},
		{"a wide rune upon two halves", of(red, "日本", "    "), func(s *api.Screen) { s.X = 1 }, "語", told{rows: []string{" 語 ", "    "}, x: 3, last: '語'}},
		{"no room at all", of(red, "a", "b"), func(s *api.Screen) { s.Last = 'q' }, "日", told{rows: []string{"a", "b"}, last: 'q'}},
		{"no room at all, while late", of(red, "a", "b"), func(s *api.Screen) { s.Late = true }, "日", told{rows: []string{"a", "b"}, late: true}},
		{"one column", of(red, "a", "b"), none, "xyz", told{rows: []string{"y", "z"}, y: 1, late: true, gone: []string{"x"}, last: 'z'}},
		{"one column without Wrap", of(red, "a", "b"), func(s *api.Screen) { s.Modes = 0 }, "xyz", told{rows: []string{"z", "b"}, last: 'z'}},
		{"one cell", of(red, "a"), none, "xyz", told{rows: []string{"z"}, late: true, gone: []string{"x", "y"}, last: 'z'}},
	} {
		before := copyOf(with(c.s, c.set))
		got, e := Text(with(c.s, c.set), c.text)
		if e != api.OK || !reflect.DeepEqual(tell(got), c.want) {
			t.Errorf("%s: %+v, %d, want %+v", c.what, tell(got), e, c.want)
		}
		expect(t, c.what, got, e, modelText(before, []rune(c.text)...))
	}
}

func TestRegion(t *testing.T) {
	s := of(red, "a", "b", "c", "d")
	for _, c := range []struct {
		what           string
		top, bottom, y int
		want           told
	}{
		{"from the first row on, at Bottom", 0, 2, 2, told{rows: []string{"b", "x", "y", "d"}, y: 2, gone: []string{"a"}}},
		{"above Bottom", 0, 2, 1, told{rows: []string{"a", "x", "y", "d"}, y: 2}},
		{"below Top's row, at Bottom", 1, 2, 2, told{rows: []string{"a", "x", "y", "d"}, y: 2}},
		{"above Top", 1, 2, 0, told{rows: []string{"x", "y", "c", "d"}, y: 1}},
		{"below Bottom", 0, 1, 2, told{rows: []string{"a", "b", "x", "y"}, y: 3}},
		{"below Bottom, in the last row", 0, 1, 3, told{rows: []string{"a", "b", "c", "y"}, y: 3}},
		{"Top above 0, Bottom the last row", 2, 3, 3, told{rows: []string{"a", "b", "x", "y"}, y: 3}},
		{"the whole", 0, 3, 3, told{rows: []string{"b", "c", "x", "y"}, y: 3, gone: []string{"a"}}},
	} {
		c.want.late, c.want.last = true, 'y'
		got, e := Text(with(s, func(s *api.Screen) { s.Top, s.Bottom, s.Y = c.top, c.bottom, c.y }), "xy")
		if e != api.OK || !reflect.DeepEqual(tell(got), c.want) {
			t.Errorf("%s: %+v, %d, want %+v", c.what, tell(got), e, c.want)
		}
	}
}

func TestInsert(t *testing.T) {
	for _, c := range []struct {
		what string
		row  string
		x    int
		text string
		want string
		at   int
		late bool
	}{
		{"in the middle", "abcd", 1, "x", "axbc", 2, false},
		{"at the beginning", "abcd", 0, "xy", "xyab", 2, false},
		{"in the last column", "abcd", 3, "x", "abcx", 3, true},
		{"a wide rune", "abcd", 1, "日", "a日b", 3, false},
		{"a wide rune at the end", "abcd", 2, "日", "ab日", 3, true},
		{"ahead of a wide rune", "a日b", 1, "x", "ax日", 2, false},
		{"a wide rune that leaves by half", "ab日", 0, "x", "xab ", 1, false},
		{"a wide rune that leaves", "ab日", 0, "語", "語ab", 2, false},
		{"within a wide rune", "日ab", 1, "x", " x a", 2, false},
		{"a wide rune within a wide one", "日本", 1, "語", " 語 ", 3, false},
		{"upon the end of a wide rune", "ab日", 3, "x", "ab x", 3, true},
	} {
		s := with(of(red, c.row, "    "), func(s *api.Screen) { s.X, s.Modes = c.x, api.Insert|api.Wrap })
		got, e := Text(s, c.text)
		if e != api.OK || rowsOf(got)[0] != c.want || got.X != c.at || got.Y != 0 || got.Late != c.late {
			t.Errorf("%s: %q at %d, %v, %d, want %q at %d, %v", c.what, rowsOf(got), got.X, got.Late, e, c.want, c.at, c.late)
		}
		expect(t, c.what, got, e, modelText(s, []rune(c.text)...))
	}
}

// What Insert moves keeps its style, the halves that become blanks, too; what is printed has S.
func TestInsertStyles(t *testing.T) {
	s := with(of(green, "日本a"), func(s *api.Screen) { s.X, s.S, s.Modes = 1, red, api.Insert })
	got, e := Text(s, "x")
	want := []api.Cell{{R: ' ', S: green}, {R: 'x', S: red}, {R: ' ', S: green}, {R: '本', S: green}, {S: green}}
	if e != api.OK || !slices.Equal(got.G.Cells, want) {
		t.Errorf("%v, %d, want %v", got.G.Cells, e, want)
	}
}

// A row that comes up is made of blanks, which have of S only Back.
func TestBlank(t *testing.T) {
	look := api.Style{Fore: 4, Back: 200, Bits: api.Reverse}
	s := with(of(green, "ab", "cd"), func(s *api.Screen) { s.X, s.Y, s.Late, s.S = 1, 1, true, look })
	got, e := Text(s, "x")
	want := slices.Concat(cellsOf(green, "cd"), []api.Cell{{R: 'x', S: look}, {R: ' ', S: api.Style{Back: 200}}})
	if e != api.OK || !slices.Equal(got.G.Cells, want) {
		t.Errorf("%v, %d, want %v", got.G.Cells, e, want)
	}
}

// Every screen of rightScreens, and every text of up to three pieces, against the model.
func TestTextModel(t *testing.T) {
	pieces := []string{"x", "語", "\u0301", "\xff"}
	texts := []string{"", "xyzuvwxyzuvw", "語本日語本日語x本日"}
	for _, a := range pieces {
		texts = append(texts, a)
		for _, b := range pieces {
			texts = append(texts, a+b)
			for _, c := range pieces {
				texts = append(texts, a+b+c)
			}
		}
	}
	for _, s := range rightScreens() {
		for _, one := range texts {
			got, e := Text(s, one)
			if want := modelText(s, []rune(one)...); e != api.OK || !equal(got, want) {
				t.Fatalf("Text(%+v, %q): %+v, %d, want %+v", s, one, got, e, want)
			}
			if e := Check(got); e != api.OK {
				t.Fatalf("Text(%+v, %q): what is answered doesn't pass Check: %d", s, one, e)
			}
		}
	}
}

// Every width that a rune may have, at the edges of the ranges of runes.
func TestTextRunes(t *testing.T) {
	s := of(red, "abc", "   ")
	for _, r := range []rune{0, 0x1F, ' ', '~', 0x7F, 0x9F, 0xA0, 0x2FF, 0x300, 0x36F, 0x370, 0x10FF, 0x1100, 0x115F, 0x1160, 0x200B, 0xFEFF, 0xFFFD, 0xFFFF, 0x1F600, 0x3FFFD, 0x3FFFE, utf8.MaxRune} {
		got, e := Text(s, "z"+string(r)+"y")
		expect(t, "Text of a rune", got, e, modelText(s, 'z', r, 'y'))
	}
}

func TestTextLength(t *testing.T) {
	s := of(red, "abc", "   ")
	long := strings.Repeat("a", api.MaxText)
	got, e := Text(s, long)
	expect(t, "as long as may be", got, e, modelText(s, []rune(long)...))
	got, e = Text(s, long+"a")
	refuse(t, "too long", got, e, api.ErrMany)
	got, e = Text(s, strings.Repeat("\u0301", api.MaxText/2)+"\n")
	refuse(t, "too long, of what takes no cell", got, e, api.ErrMany)
	got, e = Text(s, strings.Repeat("日", api.MaxText/3+1))
	refuse(t, "too long in bytes, not in runes", got, e, api.ErrMany)
	// too long a text is told ahead of all that may be wrong with a screen
	for _, group := range faults() {
		for _, f := range group {
			got, e := Text(with(base(), f.set), long+"a")
			refuse(t, "too long, on a screen with "+f.what, got, e, api.ErrMany)
		}
	}
}

func TestGone(t *testing.T) {
	s := of(red, "a", "b")
	for _, already := range []int{0, 1, api.MaxHistory - 2, api.MaxHistory - 1, api.MaxHistory} {
		s.Gone = nil
		for i := range already {
			s.Gone = append(s.Gone, cellsOf(green, strings.Repeat("x", i+1)))
		}
		got, e := Text(s, "uvwx")
		all := append(slices.Clone(s.Gone), []api.Cell{{R: 'u'}}, []api.Cell{{R: 'v'}})
		want := all[max(0, len(all)-api.MaxHistory):]
		if e != api.OK || len(got.Gone) != len(want) {
			t.Fatalf("%d gone: %d then, %d, want %d", already, len(got.Gone), e, len(want))
		}
		for i := range want {
			if !slices.Equal(got.Gone[i], want[i]) {
				t.Errorf("%d gone: row %d is %v, want %v", already, i, got.Gone[i], want[i])
			}
		}
		if e := Check(got); e != api.OK {
			t.Errorf("%d gone: what is answered doesn't pass Check: %d", already, e)
		}
	}
}

// A gone row is what the screen had, whatever its style.
func TestGoneCells(t *testing.T) {
	s := with(of(green, "日b", "   "), func(s *api.Screen) { s.X, s.Y, s.S = 2, 1, red })
	got, e := Text(s, "日")
	if e != api.OK || len(got.Gone) != 1 || !slices.Equal(got.Gone[0], cellsOf(green, "日b")) {
		t.Errorf("%v, %d", got.Gone, e)
	}
}

func TestAgain(t *testing.T) {
	for _, s := range rightScreens() {
		for _, last := range []rune{'x', '語', 0} {
			s.Last = last
			for _, n := range []int{math.MinInt, -1, 0, 1, 2, 3, 5} {
				got, e := Again(s, n)
				want := modelText(s, slices.Repeat([]rune{last}, max(n, 1))...)
				if e != api.OK || !equal(got, want) {
					t.Fatalf("Again(%+v, %d): %+v, %d, want %+v", s, n, got, e, want)
				}
				if e := Check(got); e != api.OK {
					t.Fatalf("Again(%+v, %d): what is answered doesn't pass Check: %d", s, n, e)
				}
			}
		}
	}
}

// So often, and no oftener, is a rune printed.
func TestAgainMost(t *testing.T) {
	most := api.MaxWide * api.MaxHigh
	seven, _ := New(7, 2) // 7 doesn't go into most, so X tells how often it was
	seven.Last = 'x'
	for _, n := range []int{most - 1, most, most + 1, most + 3, math.MaxInt} {
		got, e := Again(seven, n)
		expect(t, "Again", got, e, modelText(seven, slices.Repeat([]rune{'x'}, min(n, most))...))
	}
	full, _ := New(api.MaxWide, api.MaxHigh)
	full.Last = 'x'
	got, e := Again(full, most)
	want := full
	want.G.Cells = slices.Repeat([]api.Cell{{R: 'x'}}, most)
	want.X, want.Y, want.Late = api.MaxWide-1, api.MaxHigh-1, true
	expect(t, "Again on the greatest screen", got, e, want)
}

func TestAgainBehindText(t *testing.T) {
	s := of(api.Style{}, "     ")
	s, _ = Text(s, "ab\u0301")
	got, e := Again(s, 2)
	if e != api.OK || rowsOf(got)[0] != "abbb " || got.X != 4 {
		t.Errorf("%q at %d, %d", rowsOf(got), got.X, e)
	}
}

// All that printing doesn't speak of stays.
func TestWhatStays(t *testing.T) {
	s := with(of(red, "abcdefghi", "         "), func(s *api.Screen) {
		s.Tabs[3], s.Title = true, "a title"
		s.K = api.Kept{X: 4, Y: 1, S: green, Modes: api.Origin}
		s.Modes = 63 &^ api.Insert
	})
	got, e := Text(s, "xyz")
	want := copyOf(s)
	copy(want.G.Cells, cellsOf(api.Style{}, "xyz"))
	want.X, want.Last = 3, 'z'
	expect(t, "Text", got, e, want)
}

// P5.3

// Texts printed one behind the other are one text, cut at every place between two runes.
func TestPieces(t *testing.T) {
	for i, s := range rightScreens() {
		whole := []string{"x語yz本\u0301日", "語語x語", "\xffab\u0301\n日日"}[i%3]
		want, e := Text(s, whole)
		if e != api.OK {
			t.Fatalf("Text(%+v, %q): %d", s, whole, e)
		}
		for at := range whole {
			first, e := Text(s, whole[:at])
			got, f := Text(first, whole[at:])
			if e != api.OK || f != api.OK || !equal(got, want) {
				t.Fatalf("Text(%+v) of %q and %q: %+v, %d, %d, want %+v", s, whole[:at], whole[at:], got, e, f, want)
			}
		}
	}
}

// What is answered may be handed in again, for ever.
func TestOnAndOn(t *testing.T) {
	s, _ := New(5, 3)
	for i := range 400 {
		s.Modes = []int{api.Wrap, api.Wrap | api.Insert, api.Wrap, api.Insert}[i/7%4]
		s.S = []api.Style{{}, red, green}[i%3]
		if s.Modes&api.Wrap == 0 {
			s.Late = false
		}
		piece := []string{"a", "日", "b日", "本c", "\n", "語語語"}[i%6]
		want := modelText(s, []rune(piece)...)
		got, e := Text(s, piece)
		expect(t, piece, got, e, want)
		s = got
	}
}

// P2

// roomy: s, each list with spare room behind it that has something in it.
func roomy(s api.Screen) (api.Screen, func() bool) {
	s = copyOf(s)
	mark := api.Cell{R: 'M', S: red}
	s.G.Cells = append(s.G.Cells, mark, mark)
	s.Tabs = append(s.Tabs, true, true)
	for i := range s.Gone {
		s.Gone[i] = append(s.Gone[i], mark, mark)
	}
	s.Gone = append(s.Gone, []api.Cell{mark}, []api.Cell{mark})
	all := s
	before := copyOf(all)
	s.G.Cells = s.G.Cells[:len(s.G.Cells)-2]
	s.Tabs = s.Tabs[:len(s.Tabs)-2]
	s.Gone = s.Gone[:len(s.Gone)-2]
	rows := slices.Clone(s.Gone)
	for i := range s.Gone {
		s.Gone[i] = s.Gone[i][:len(s.Gone[i])-2]
	}
	cut := slices.Clone(s.Gone)
	return s, func() bool {
		for i := range cut { // is it still the same row, and what lies behind it?
			if len(s.Gone[i]) != len(cut[i]) || &s.Gone[i][0] != &cut[i][0] {
				return false
			}
		}
		now := all
		now.Gone = append(slices.Clone(rows), all.Gone[len(rows):]...)
		return equal(now, before)
	}
}

// spoil writes over all that s has, the spare room, too.
func spoil(s api.Screen) {
	for _, row := range append([][]api.Cell{s.G.Cells}, s.Gone...) {
		row = row[:cap(row)]
		for i := range row {
			row[i] = api.Cell{R: '!'}
		}
	}
	tabs := s.Tabs[:cap(s.Tabs)]
	for i := range tabs {
		tabs[i] = !tabs[i]
	}
	gone := s.Gone[:cap(s.Gone)]
	for i := range gone {
		gone[i] = nil
	}
}

// screensToKeep: from one that hardly moves to one of which rows go.
func screensToKeep() []api.Screen {
	some := with(of(green, "日b", "cd "), func(s *api.Screen) {
		s.X, s.Y, s.S, s.Last = 2, 1, red, '語'
		s.Gone = [][]api.Cell{cellsOf(red, "abc"), cellsOf(green, "日日")}
	})
	full := with(some, func(s *api.Screen) {
		s.Gone = slices.Repeat(s.Gone, api.MaxHistory/2)
	})
	first := with(some, func(s *api.Screen) { s.X, s.Y, s.Modes = 0, 0, api.Insert })
	return []api.Screen{some, full, first, with(some, func(s *api.Screen) { s.Last, s.Gone = 0, nil })}
}

func TestHandedInIsOnlyRead(t *testing.T) {
	for _, s := range screensToKeep() {
		for _, c := range calls() {
			in, same := roomy(s)
			got, e := c.call(in)
			if e != api.OK || !same() {
				t.Errorf("%s of %+v changes what it was handed", c.name, s)
			}
			spoil(got)
			if !same() {
				t.Errorf("%s of %+v shares what it answers with what it was handed", c.name, s)
			}
		}
		in, same := roomy(s)
		if e := Check(in); e != api.OK || !same() {
			t.Errorf("Check of %+v changes what it was handed, or answers %d", s, e)
		}
	}
}

// No list of an answer shares memory with another one: each is written over, and its spare room, and the others stay.
func TestListsOfAnAnswerShareNothing(t *testing.T) {
	for _, s := range screensToKeep() {
		for _, c := range calls() {
			got, _ := c.call(s)
			lists := append([][]api.Cell{got.G.Cells}, got.Gone...)
			for i, one := range lists {
				before := copyOf(got)
				kept := slices.Clone(one)
				one = one[:cap(one)]
				for j := range one {
					one[j] = api.Cell{R: '!'}
				}
				copy(lists[i], kept)
				if !equal(got, before) {
					t.Errorf("%s of %+v: list %d shares memory with another one", c.name, s, i)
				}
			}
		}
	}
}

func TestNewSharesNothing(t *testing.T) {
	a, _ := New(9, 2)
	spoil(a)
	b, e := New(9, 2)
	if e != api.OK || rowsOf(b)[0] != "         " || !b.Tabs[8] || b.Tabs[0] {
		t.Errorf("%+v, %d", b, e)
	}
}

// Lists that have nothing in them may be nil or empty.
func TestNoneGone(t *testing.T) {
	s := of(red, "ab", "cd")
	a, e := Text(with(s, func(s *api.Screen) { s.Gone = nil }), "xyzuvw")
	b, f := Text(with(s, func(s *api.Screen) { s.Gone = make([][]api.Cell, 0, 4) }), "xyzuvw")
	if e != api.OK || f != api.OK || !equal(a, b) {
		t.Errorf("%+v, %d and %+v, %d", a, e, b, f)
	}
}

// The document's own words of chapter 3 hold of what is answered: its grid passes, and tells its lines.
func TestLines(t *testing.T) {
	s, _ := New(4, 2)
	s, _ = Text(s, "日本語x")
	if l, e := grid.Lines(s.G); e != api.OK || !slices.Equal(l, []string{"日本", "語x"}) {
		t.Errorf("%q, %d", l, e)
	}
}
