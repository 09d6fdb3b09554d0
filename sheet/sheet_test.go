package sheet

import (
	"reflect"
	"slices"
	"testing"

	"trellis/api"
)

// column: a screen of one column.
func column(runes string) api.Screen {
	s := api.Screen{G: api.Grid{W: 1, H: len(runes)}, Bottom: len(runes) - 1, Modes: api.Wrap, Tabs: []bool{true}, Title: "t"}
	for _, r := range runes {
		s.G.Cells = append(s.G.Cells, api.Cell{R: r})
	}
	return s
}

func textOf(cells []api.Cell) string {
	var out []rune
	for _, c := range cells {
		out = append(out, c.R)
	}
	return string(out)
}

func TestChangeOfAWrongScreen(t *testing.T) {
	got, e := Change(api.Screen{X: 3}, api.ErrSize, func(*Sheet) { t.Error("a wrong screen is changed") })
	if e != api.ErrSize || !reflect.DeepEqual(got, api.Screen{}) {
		t.Errorf("%+v, %d", got, e)
	}
}

func TestChangeByNothing(t *testing.T) {
	s := column("abc")
	s.Gone = [][]api.Cell{{{R: 'x'}}, {{R: 'y'}}}
	got, e := Change(s, api.OK, func(*Sheet) {})
	if e != api.OK || !reflect.DeepEqual(got, s) {
		t.Errorf("%+v, %d, want %+v", got, e, s)
	}
	if &got.G.Cells[0] == &s.G.Cells[0] || &got.Tabs[0] == &s.Tabs[0] || &got.Gone[0] == &s.Gone[0] || &got.Gone[1][0] == &s.Gone[1][0] {
		t.Error("what is answered shares memory with what was handed in")
	}
}

func TestUp(t *testing.T) {
	for _, c := range []struct {
		top, bottom, times int
		want, gone         string
	}{
		{0, 3, 1, "bcd ", "a"},
		{0, 3, 2, "cd  ", "ab"},
		{0, 3, 5, "    ", "abcd "},
		{0, 1, 1, "b cd", "a"},
		{1, 3, 1, "acd ", ""},
		{1, 2, 2, "a  d", ""},
		{3, 3, 1, "abc ", ""},
	} {
		s := column("abcd")
		s.Bottom = c.bottom
		got, _ := Change(s, api.OK, func(p *Sheet) {
			for range c.times {
				p.Up(c.top)
			}
		})
		if textOf(got.G.Cells) != c.want || textOf(slices.Concat(got.Gone...)) != c.gone {
			t.Errorf("%+v: %q, gone %q", c, textOf(got.G.Cells), textOf(slices.Concat(got.Gone...)))
		}
		if textOf(s.G.Cells) != "abcd" {
			t.Errorf("%+v: what was handed in is %q then", c, textOf(s.G.Cells))
		}
	}
}

func TestClear(t *testing.T) {
	look, under := api.Style{Fore: 3, Back: 2, Bits: api.Bold}, api.Style{Fore: 5, Back: 6, Bits: api.Under}
	cell := func(r rune, s api.Style) api.Cell { return api.Cell{R: r, S: s} }
	a, wide, half, b := cell('a', under), cell('日', under), cell(0, under), cell('b', under)
	blank, mended := cell(' ', api.Style{Back: 2}), cell(' ', under)
	for _, c := range []struct {
		first, end int
		want       []api.Cell
	}{
		{0, 0, []api.Cell{a, wide, half, b}},
		{4, 4, []api.Cell{a, wide, half, b}},
		{0, 1, []api.Cell{blank, wide, half, b}},
		{0, 2, []api.Cell{blank, blank, mended, b}},
		{1, 3, []api.Cell{a, blank, blank, b}},
		{2, 4, []api.Cell{a, mended, blank, blank}},
		{3, 4, []api.Cell{a, wide, half, blank}},
		{0, 4, []api.Cell{blank, blank, blank, blank}},
	} {
		for y := range 3 {
			rows := slices.Repeat([]api.Cell{a, wide, half, b}, 3)
			s := api.Screen{G: api.Grid{W: 4, H: 3, Cells: slices.Clone(rows)}, S: look, X: 3, Y: 1, Bottom: 2, Tabs: make([]bool, 4)}
			got, _ := Change(s, api.OK, func(p *Sheet) { p.Clear(y, c.first, c.end) })
			if want := slices.Replace(slices.Clone(rows), y*4, y*4+4, c.want...); !slices.Equal(got.G.Cells, want) {
				t.Errorf("row %d from %d to %d: %v, want %v", y, c.first, c.end, got.G.Cells, want)
			}
			if !slices.Equal(s.G.Cells, rows) {
				t.Errorf("row %d from %d to %d: what was handed in is %v then", y, c.first, c.end, s.G.Cells)
			}
		}
	}
}

// Drop does as Up does, but keeps nothing.
func TestDrop(t *testing.T) {
	for _, c := range []struct {
		top, bottom, times int
		want               string
	}{
		{0, 3, 1, "bcd "}, {0, 3, 2, "cd  "}, {0, 3, 5, "    "}, {0, 1, 1, "b cd"}, {1, 3, 1, "acd "}, {1, 2, 2, "a  d"}, {3, 3, 1, "abc "},
	} {
		moveRows(t, c.bottom, c.times, c.want, func(p *Sheet) { p.Drop(c.top) })
	}
}

func TestDown(t *testing.T) {
	for _, c := range []struct {
		top, bottom, times int
		want               string
	}{
		{0, 3, 1, " abc"}, {0, 3, 2, "  ab"}, {0, 3, 5, "    "}, {0, 1, 1, " acd"}, {1, 3, 1, "a bc"}, {1, 2, 2, "a  d"}, {3, 3, 1, "abc "},
	} {
		moveRows(t, c.bottom, c.times, c.want, func(p *Sheet) { p.Down(c.top) })
	}
}

// moveRows of a column of four by step: nothing is gone then but what was.
func moveRows(t *testing.T, bottom, times int, want string, step func(*Sheet)) {
	t.Helper()
	s := column("abcd")
	s.Bottom = bottom
	s.Gone = [][]api.Cell{{{R: 'x'}}}
	got, _ := Change(s, api.OK, func(p *Sheet) {
		for range times {
			step(p)
		}
	})
	if textOf(got.G.Cells) != want || textOf(slices.Concat(got.Gone...)) != "x" {
		t.Errorf("Bottom %d, %d times: %q, want %q; gone %q", bottom, times, textOf(got.G.Cells), want, textOf(slices.Concat(got.Gone...)))
	}
	if textOf(s.G.Cells) != "abcd" {
		t.Errorf("Bottom %d, %d times: what was handed in is %q then", bottom, times, textOf(s.G.Cells))
	}
}

func TestInsertAndDelete(t *testing.T) {
	look, one, other := api.Style{Fore: 3, Back: 2, Bits: api.Bold}, api.Style{Fore: 5, Back: 6, Bits: api.Under}, api.Style{Fore: 1}
	cell := func(r rune, s api.Style) api.Cell { return api.Cell{R: r, S: s} }
	a, wide, half, next, rest := cell('a', one), cell('日', one), cell(0, one), cell('本', other), cell(0, other)
	blank, mended, cut := cell(' ', api.Style{Back: 2}), cell(' ', one), cell(' ', other)
	for _, c := range []struct {
		x, n              int
		inserted, deleted []api.Cell
	}{
		{0, 1, []api.Cell{blank, a, wide, half, cut}, []api.Cell{wide, half, next, rest, blank}},
		{1, 1, []api.Cell{a, blank, wide, half, cut}, []api.Cell{a, mended, next, rest, blank}},
		{1, 2, []api.Cell{a, blank, blank, wide, half}, []api.Cell{a, next, rest, blank, blank}},
		{2, 1, []api.Cell{a, mended, blank, mended, cut}, []api.Cell{a, mended, next, rest, blank}},
		{2, 2, []api.Cell{a, mended, blank, blank, mended}, []api.Cell{a, mended, cut, blank, blank}},
		{4, 1, []api.Cell{a, wide, half, cut, blank}, []api.Cell{a, wide, half, cut, blank}},
		{0, 5, []api.Cell{blank, blank, blank, blank, blank}, []api.Cell{blank, blank, blank, blank, blank}},
	} {
		for y := range 2 {
			rows := slices.Repeat([]api.Cell{a, wide, half, next, rest}, 2)
			s := api.Screen{G: api.Grid{W: 5, H: 2, Cells: slices.Clone(rows)}, S: look, X: c.x, Y: y, Bottom: 1, Tabs: make([]bool, 5)}
			got, _ := Change(s, api.OK, func(p *Sheet) { p.Insert(c.n) })
			if want := slices.Replace(slices.Clone(rows), y*5, y*5+5, c.inserted...); !slices.Equal(got.G.Cells, want) {
				t.Errorf("Insert %d at %d, %d: %v, want %v", c.n, c.x, y, got.G.Cells, want)
			}
			got, _ = Change(s, api.OK, func(p *Sheet) { p.Delete(c.n) })
			if want := slices.Replace(slices.Clone(rows), y*5, y*5+5, c.deleted...); !slices.Equal(got.G.Cells, want) {
				t.Errorf("Delete %d at %d, %d: %v, want %v", c.n, c.x, y, got.G.Cells, want)
			}
			if !slices.Equal(s.G.Cells, rows) {
				t.Errorf("%d at %d, %d: what was handed in is %v then", c.n, c.x, y, s.G.Cells)
			}
		}
	}
}

func TestHas(t *testing.T) {
	p := Sheet{Screen: api.Screen{Modes: api.Wrap | api.Paste}}
	if !p.Has(api.Wrap) || !p.Has(api.Wrap|api.Paste) || p.Has(api.Insert) || p.Has(api.Insert|api.Wrap) {
		t.Error("Has tells of other bits than Modes")
	}
}

func TestModes(t *testing.T) {
	if AllModes != 63 || KeptModes != 6 {
		t.Errorf("all modes are %d, those that are kept %d", AllModes, KeptModes)
	}
}

func TestHome(t *testing.T) {
	for _, c := range []struct{ modes, top, want int }{
		{0, 0, 0}, {0, 2, 0}, {api.Wrap, 1, 0}, {api.Origin, 0, 0}, {api.Origin, 1, 1}, {api.Origin | api.Wrap, 2, 2},
	} {
		for y := range 4 {
			s := column("abcd")
			s.Modes, s.Top, s.Y, s.Late = c.modes, c.top, y, c.modes&api.Wrap != 0
			want := s
			want.Y, want.Late = c.want, false
			if got, _ := Change(s, api.OK, (*Sheet).Home); !reflect.DeepEqual(got, want) {
				t.Errorf("modes %d, Top %d, in row %d: %+v, want %+v", c.modes, c.top, y, got, want)
			}
		}
	}
	p := Sheet{Screen: api.Screen{X: 3, Y: 2}}
	if p.Home(); p.X != 0 || p.Y != 0 {
		t.Errorf("home is at %d, %d", p.X, p.Y)
	}
}

// Nothing is left of what there was, the cells neither; and what it became is only read.
func TestBecome(t *testing.T) {
	s, other := column("abcd"), column("xyz")
	s.Gone = [][]api.Cell{{{R: 'g'}}}
	other.X, other.Y, other.Title, other.Gone = 0, 2, "another", [][]api.Cell{{{R: 'o'}}, {{R: 'p'}}}
	got, e := Change(s, api.OK, func(p *Sheet) { p.Become(other) })
	if e != api.OK || !reflect.DeepEqual(got, other) {
		t.Errorf("%+v, %d, want %+v", got, e, other)
	}
	if &got.G.Cells[0] == &other.G.Cells[0] || &got.Tabs[0] == &other.Tabs[0] || &got.Gone[0] == &other.Gone[0] || &got.Gone[1][0] == &other.Gone[1][0] {
		t.Error("what is answered shares memory with what it became")
	}
	got, _ = Change(s, api.OK, func(p *Sheet) {
		p.Become(other)
		p.Up(0)
	})
	if textOf(got.G.Cells) != "yz " || textOf(slices.Concat(got.Gone...)) != "opx" || textOf(other.G.Cells) != "xyz" || len(other.Gone) != 2 {
		t.Errorf("moved up then: %+v, of %+v", got, other)
	}
}

// Print goes on behind what it printed, and to the next row only when there is something for it; what takes no cell, what is no rune and what no row has room for does nothing.
func TestPrint(t *testing.T) {
	for _, c := range []struct {
		modes int
		x     int
		runes []rune
		want  string
		atX   int
		atY   int
		late  bool
		last  rune
	}{
		{api.Wrap, 0, []rune{'x'}, "xbcdef", 1, 0, false, 'x'},
		{api.Wrap, 1, []rune{'日'}, "a日\x00def", 2, 0, true, '日'},
		{api.Wrap, 2, []rune{'日'}, "abc日\x00f", 2, 1, false, '日'},
		{api.Wrap, 2, []rune{'x', 'y'}, "abxyef", 1, 1, false, 'y'},
		{api.Insert, 0, []rune{'x'}, "xabdef", 1, 0, false, 'x'},
		{api.Insert, 0, []rune{'日'}, "日\x00adef", 2, 0, false, '日'},
		{0, 2, []rune{'x', 'y'}, "abydef", 2, 0, false, 'y'},
		{0, 2, []rune{'日'}, "abcdef", 2, 0, false, 0},
		{api.Wrap, 1, []rune{0, '\n', 0x301, 0xD800, -1, 0x110000}, "abcdef", 1, 0, false, 0},
	} {
		s := api.Screen{G: api.Grid{W: 3, H: 2}, X: c.x, Bottom: 1, Modes: c.modes, Tabs: make([]bool, 3)}
		for _, r := range "abcdef" {
			s.G.Cells = append(s.G.Cells, api.Cell{R: r})
		}
		got, _ := Change(s, api.OK, func(p *Sheet) {
			for _, r := range c.runes {
				p.Print(r)
			}
		})
		if textOf(got.G.Cells) != c.want || got.X != c.atX || got.Y != c.atY || got.Late != c.late || got.Last != c.last {
			t.Errorf("%q at %d, modes %d: %q, %d, %d, %t, last %q, want %q", c.runes, c.x, c.modes, textOf(got.G.Cells), got.X, got.Y, got.Late, got.Last, c.want)
		}
	}
	if got, _ := Change(column("ab"), api.OK, func(p *Sheet) { p.Print('日') }); textOf(got.G.Cells) != "ab" || got.Y != 0 || got.Last != 0 {
		t.Errorf("a rune wider than the screen: %+v", got)
	}
}

// Write takes the look that is set, for both halves, and leaves no half of what was there.
func TestWrite(t *testing.T) {
	look, under := api.Style{Fore: 3, Back: 2, Bits: api.Bold}, api.Style{Fore: 5, Back: 6, Bits: api.Under}
	cell := func(r rune, s api.Style) api.Cell { return api.Cell{R: r, S: s} }
	a, wide, half, b, mended := cell('a', under), cell('日', under), cell(0, under), cell('b', under), cell(' ', under)
	x, left, right := cell('x', look), cell('本', look), cell(0, look)
	for _, c := range []struct {
		x    int
		r    rune
		want []api.Cell
	}{
		{0, 'x', []api.Cell{x, wide, half, b}},
		{1, 'x', []api.Cell{a, x, mended, b}},
		{2, 'x', []api.Cell{a, mended, x, b}},
		{3, 'x', []api.Cell{a, wide, half, x}},
		{0, '本', []api.Cell{left, right, mended, b}},
		{1, '本', []api.Cell{a, left, right, b}},
		{2, '本', []api.Cell{a, mended, left, right}},
	} {
		for y := range 2 {
			rows := slices.Repeat([]api.Cell{a, wide, half, b}, 2)
			s := api.Screen{G: api.Grid{W: 4, H: 2, Cells: slices.Clone(rows)}, S: look, X: c.x, Y: y, Bottom: 1, Tabs: make([]bool, 4)}
			got, _ := Change(s, api.OK, func(p *Sheet) { p.Write(c.r) })
			if want := slices.Replace(slices.Clone(rows), y*4, y*4+4, c.want...); !slices.Equal(got.G.Cells, want) || !slices.Equal(s.G.Cells, rows) {
				t.Errorf("%q at %d, %d: %v, want %v", c.r, c.x, y, got.G.Cells, want)
			}
		}
	}
}
