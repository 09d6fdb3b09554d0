package grid

import (
	"math"
	"reflect"
	"slices"
	"strings"
	"testing"

	"trellis/api"
	"trellis/style"
	"trellis/text"
)

var (
	plain = api.Style{}
	red   = api.Style{Back: 2, Bits: api.Bold}
	green = api.Style{Fore: 3}
	wrong = api.Style{Fore: api.MaxColour + 1}
)

var extremes = []int{math.MinInt, math.MinInt + 1, math.MaxInt - 1, math.MaxInt}

// cellsOf s, in one style, without any call of this package.
func cellsOf(look api.Style, s string) []api.Cell {
	var cells []api.Cell
	for _, r := range s {
		cells = append(cells, api.Cell{R: r, S: look})
		if text.Width(r) == 2 {
			cells = append(cells, api.Cell{S: look})
		}
	}
	return cells
}

// of: a grid of rows that are equally wide.
func of(look api.Style, rows ...string) api.Grid {
	g := api.Grid{H: len(rows)}
	for _, s := range rows {
		row := cellsOf(look, s)
		g.W = len(row)
		g.Cells = append(g.Cells, row...)
	}
	return g
}

// row: a grid of one row.
func row(cells ...api.Cell) api.Grid {
	return api.Grid{W: len(cells), H: 1, Cells: cells}
}

// joined: a grid of one row, made of pieces of rows.
func joined(pieces ...[]api.Cell) api.Grid { return row(slices.Concat(pieces...)...) }

// rightRows: every row of w cells that is right, made of narrow and wide runes in two styles.
func rightRows(w int) [][]api.Cell {
	if w == 0 {
		return [][]api.Cell{nil}
	}
	var all [][]api.Cell
	for _, piece := range [][]api.Cell{{{R: ' '}}, {{R: 'a', S: red}}, cellsOf(plain, "日"), cellsOf(red, "本")} {
		if len(piece) > w {
			continue
		}
		for _, rest := range rightRows(w - len(piece)) {
			all = append(all, slices.Concat(piece, rest))
		}
	}
	return all
}

// rightGrids: every right row of up to four cells, and some grids of more rows.
func rightGrids() []api.Grid {
	var all []api.Grid
	for w := 1; w <= 4; w++ {
		for _, r := range rightRows(w) {
			all = append(all, row(r...))
		}
	}
	two := rightRows(2)
	for _, a := range two {
		for _, b := range two {
			all = append(all, api.Grid{W: 2, H: 2, Cells: slices.Concat(a, b)})
		}
	}
	return append(all, of(red, "日本語", "a日bcd", "日ab日", "      "), of(green, "日", "ab", "本"))
}

func equal(a, b api.Grid) bool {
	return a.W == b.W && a.H == b.H && slices.Equal(a.Cells, b.Cells)
}

// expect: got and e are what was to be answered, and right.
func expect(t *testing.T, what string, got api.Grid, e api.Errno, want api.Grid) {
	t.Helper()
	if e != api.OK || !equal(got, want) {
		t.Errorf("%s: %v, %d, want %v, 0", what, got, e, want)
	}
	if e := Check(got); e != api.OK {
		t.Errorf("%s: what is answered doesn't pass Check: %d", what, e)
	}
}

// refuse: nothing but the error is answered.
func refuse(t *testing.T, what string, got api.Grid, e, want api.Errno) {
	t.Helper()
	if e != want || !reflect.DeepEqual(got, api.Grid{}) {
		t.Errorf("%s: %v, %d, want nothing, %d", what, got, e, want)
	}
}

// modelMend: a row mended as the chapter tells it, cell by cell, from the left.
func modelMend(cells []api.Cell) {
	for i := range cells {
		halfBehind := i+1 < len(cells) && cells[i+1].R == 0
		wideAhead := i > 0 && text.Width(cells[i-1].R) == 2
		if text.Width(cells[i].R) == 2 && !halfBehind || cells[i].R == 0 && !wideAhead {
			cells[i].R = ' '
		}
	}
}

// model: a w times h grid, each cell asked of pick, each row mended.
func model(w, h int, pick func(x, y int) api.Cell) api.Grid {
	g := api.Grid{W: w, H: h}
	for y := range h {
		for x := range w {
			g.Cells = append(g.Cells, pick(x, y))
		}
		modelMend(g.Cells[y*w:])
	}
	return g
}

func at(g api.Grid, x, y int) api.Cell { return g.Cells[y*g.W+x] }

// P3.1

func TestCheckSize(t *testing.T) {
	for _, c := range []struct {
		w, h, cells int
		want        api.Errno
	}{
		{1, 1, 1, api.OK},
		{api.MaxWide, 1, api.MaxWide, api.OK},
		{1, api.MaxHigh, api.MaxHigh, api.OK},
		{api.MaxWide, api.MaxHigh, api.MaxWide * api.MaxHigh, api.OK},
		{0, 0, 0, api.ErrSize},
		{0, 1, 0, api.ErrSize},
		{1, 0, 0, api.ErrSize},
		{0, 1, 1, api.ErrSize},
		{1, 0, 1, api.ErrSize},
		{-2, -3, 6, api.ErrSize},
		{-1, 1, 0, api.ErrSize},
		{api.MaxWide + 1, 1, api.MaxWide + 1, api.ErrSize},
		{1, api.MaxHigh + 1, api.MaxHigh + 1, api.ErrSize},
		{3, 2, 5, api.ErrSize},
		{3, 2, 7, api.ErrSize},
		{3, 2, 0, api.ErrSize},
		{math.MaxInt, 1, 1, api.ErrSize},
		{1 << 32, 1 << 32, 0, api.ErrSize}, // the product wraps round to 0
		{math.MinInt, math.MinInt, 0, api.ErrSize},
	} {
		g := api.Grid{W: c.w, H: c.h, Cells: slices.Repeat([]api.Cell{{R: 'x'}}, c.cells)}
		if e := Check(g); e != c.want {
			t.Errorf("Check of %d times %d with %d cells: %d, want %d", c.w, c.h, c.cells, e, c.want)
		}
	}
	if e := Check(api.Grid{W: 1, H: 1, Cells: nil}); e != api.ErrSize {
		t.Errorf("Check of a grid without a list: %d", e)
	}
}

func TestCheckCells(t *testing.T) {
	half := api.Cell{}
	wide := api.Cell{R: '日'}
	a := api.Cell{R: 'a'}
	for _, c := range []struct {
		what string
		g    api.Grid
		want api.Errno
	}{
		{"a narrow rune", row(a), api.OK},
		{"a blank in a style", row(api.Cell{R: ' ', S: red}), api.OK},
		{"a wide rune", row(wide, half), api.OK},
		{"a wide rune in a style", joined(cellsOf(red, "日")), api.OK},
		{"wide runes side by side", joined(cellsOf(red, "日"), cellsOf(plain, "本")), api.OK},
		{"a control", row(api.Cell{R: '\n'}), api.ErrRange},
		{"a rune on another", row(api.Cell{R: 0x301}), api.ErrRange},
		{"a number below all runes", row(api.Cell{R: -1}), api.ErrRange},
		{"a number above all runes", row(api.Cell{R: 0x110000}), api.ErrRange},
		{"a half of a pair", row(api.Cell{R: 0xD800}), api.ErrRange},
		{"no style", row(api.Cell{R: 'a', S: wrong}), api.ErrRange},
		{"no style of a wide rune", row(api.Cell{R: '日', S: wrong}, api.Cell{S: wrong}), api.ErrRange},
		{"no style of a half", row(wide, api.Cell{S: wrong}), api.ErrRange},
		{"a half alone", row(half), api.ErrForm},
		{"a half behind a narrow rune", row(a, half), api.ErrForm},
		{"two halves", row(wide, half, half), api.ErrForm},
		{"a half in another style", row(wide, api.Cell{S: red}), api.ErrForm},
		{"a wide rune at the end", row(a, wide), api.ErrForm},
		{"a wide rune alone", row(wide), api.ErrForm},
		{"a wide rune ahead of a narrow one", row(wide, a), api.ErrForm},
		{"a wide rune ahead of a wide one", row(wide, wide, half), api.ErrForm},
		{"a wide rune over the end of a row", api.Grid{W: 2, H: 2, Cells: []api.Cell{a, wide, half, a}}, api.ErrForm},
		{"a half at the beginning of the second row", api.Grid{W: 2, H: 2, Cells: []api.Cell{wide, half, half, a}}, api.ErrForm},
		{"the last cell", api.Grid{W: 2, H: 2, Cells: []api.Cell{a, a, a, {R: '\t'}}}, api.ErrRange},
		// of several wrong cells the first one is told, whatever is wrong with it
		{"form ahead of range", row(half, api.Cell{R: '\n'}), api.ErrForm},
		{"range ahead of form", row(api.Cell{R: '\n'}, half), api.ErrRange},
		{"a wide rune ahead of a wrong one", row(wide, api.Cell{R: '\n'}), api.ErrForm},
		{"a half alone, without a style", row(api.Cell{S: wrong}), api.ErrRange},
		{"a wide rune alone, without a style", row(api.Cell{R: '日', S: wrong}), api.ErrRange},
		{"a size ahead of all", api.Grid{W: 2, H: 1, Cells: []api.Cell{{R: '\n'}}}, api.ErrSize},
	} {
		if e := Check(c.g); e != c.want {
			t.Errorf("Check of %s: %d, want %d", c.what, e, c.want)
		}
	}
}

func TestCheckOfEveryRow(t *testing.T) {
	pieces := []api.Cell{{R: ' '}, {R: 'a', S: red}, {R: '日'}, {R: '日', S: red}, {R: 0}, {R: 0, S: red}, {R: 7}, {R: 'b', S: wrong}, {R: 0, S: wrong}}
	var cells [4]api.Cell
	right := 0
	for i := range 9 * 9 * 9 * 9 {
		for k, n := 0, i; k < 4; k, n = k+1, n/9 {
			cells[k] = pieces[n%9]
		}
		g := row(cells[:]...)
		want := api.OK
		for k := 3; k >= 0; k-- { // from the right, so that the first one has the last word
			c := cells[k]
			loose := c.R == 0 && (k == 0 || cells[k-1].R != '日' || cells[k-1].S != c.S) || c.R == '日' && (k == 3 || cells[k+1].R != 0)
			if loose {
				want = api.ErrForm
			}
			if c.R == 7 || c.S == wrong {
				want = api.ErrRange
			}
		}
		if e := Check(g); e != want {
			t.Fatalf("Check(%v): %d, want %d", g, e, want)
		}
		if want == api.OK {
			right++
		}
	}
	if want := len(rightRows(4)); right != want {
		t.Errorf("%d rows are right, want %d", right, want)
	}
}

func TestNew(t *testing.T) {
	for _, w := range []int{1, 2, 80, api.MaxWide} {
		for _, h := range []int{1, 2, 24, api.MaxHigh} {
			g, e := New(w, h)
			expect(t, "New", g, e, model(w, h, func(x, y int) api.Cell { return api.Cell{R: ' '} }))
		}
	}
	for _, c := range [][2]int{{0, 1}, {1, 0}, {-1, 1}, {1, -1}, {-1, -1}, {api.MaxWide + 1, 1}, {1, api.MaxHigh + 1}, {api.MaxHigh, api.MaxWide}, {math.MaxInt, 2}, {2, math.MaxInt}, {math.MinInt, math.MinInt}} {
		g, e := New(c[0], c[1])
		refuse(t, "New of a wrong size", g, e, api.ErrSize)
	}
}

// wrongGrids: with the error of each.
func wrongGrids() map[api.Errno]api.Grid {
	return map[api.Errno]api.Grid{
		api.ErrSize:  {W: 2, H: 2, Cells: cellsOf(plain, "abc")},
		api.ErrRange: row(api.Cell{R: 'a'}, api.Cell{R: 7}, api.Cell{}),
		api.ErrForm:  row(api.Cell{R: 'a'}, api.Cell{}, api.Cell{R: 7}),
	}
}

// Whatever else is wrong, the grid's own error is told.
func TestWrongGrids(t *testing.T) {
	good := of(plain, "ab", "日")
	for want, g := range wrongGrids() {
		got, e := Fill(g, api.Rect{W: 1, H: 1}, api.Cell{R: '日', S: wrong})
		refuse(t, "Fill", got, e, want)
		got, e = Write(g, -1, -1, "x", wrong)
		refuse(t, "Write", got, e, want)
		got, e = Write(g, 0, 0, "x", plain)
		refuse(t, "Write", got, e, want)
		got, e = Part(g, api.Rect{})
		refuse(t, "Part", got, e, want)
		got, e = Part(g, api.Rect{W: 1, H: 1})
		refuse(t, "Part", got, e, want)
		got, e = Resize(g, 0, 0)
		refuse(t, "Resize", got, e, want)
		got, e = Resize(g, 1, 1)
		refuse(t, "Resize", got, e, want)
		got, e = Lay(g, good, 0, 0)
		refuse(t, "Lay", got, e, want)
		got, e = Lay(good, g, 0, 0)
		refuse(t, "Lay on", got, e, want)
		got, e = Lay(good, g, 1000, 1000)
		refuse(t, "Lay on", got, e, want)
		for _, second := range wrongGrids() {
			got, e = Lay(g, second, 0, 0)
			refuse(t, "Lay of two wrong ones", got, e, want)
		}
		lines, e := Lines(g)
		if lines != nil || e != want {
			t.Errorf("Lines: %q, %d, want none, %d", lines, e, want)
		}
	}
}

// P3.2

func TestFill(t *testing.T) {
	z := api.Cell{R: 'z', S: red}
	for _, c := range []struct {
		what string
		g    api.Grid
		r    api.Rect
		want api.Grid
	}{
		{"all", of(plain, "abc", "def"), api.Rect{W: 3, H: 2}, of(red, "zzz", "zzz")},
		{"a corner", of(red, "abc", "def"), api.Rect{X: 2, Y: 1, W: 1, H: 1}, of(red, "abc", "dez")},
		{"the middle", of(red, "abcd", "efgh", "ijkl"), api.Rect{X: 1, Y: 1, W: 2, H: 1}, of(red, "abcd", "ezzh", "ijkl")},
		{"over the right and lower edge", of(red, "abc", "def"), api.Rect{X: 1, Y: 1, W: 9, H: 9}, of(red, "abc", "dzz")},
		{"over the left and upper edge", of(red, "abc", "def"), api.Rect{X: -4, Y: -4, W: 5, H: 5}, of(red, "zbc", "def")},
		{"nothing", of(red, "日b"), api.Rect{}, of(red, "日b")},
		{"no width", of(red, "日b"), api.Rect{X: 1, H: 1}, of(red, "日b")},
		{"no height", of(red, "日b"), api.Rect{X: 1, W: 1}, of(red, "日b")},
		{"a width below 0", of(red, "abc"), api.Rect{X: 2, W: -2, H: 1}, of(red, "abc")},
		{"a height below 0", of(red, "a", "b", "c"), api.Rect{Y: 2, W: 1, H: -2}, of(red, "a", "b", "c")},
		{"just beside it", of(red, "abc"), api.Rect{X: 3, W: 1, H: 1}, of(red, "abc")},
		{"just left of it", of(red, "abc"), api.Rect{X: -1, W: 1, H: 1}, of(red, "abc")},
		{"just below it", of(red, "abc"), api.Rect{Y: 1, W: 1, H: 1}, of(red, "abc")},
		{"a left half", of(plain, "日b"), api.Rect{W: 1, H: 1}, joined(cellsOf(red, "z"), cellsOf(plain, " b"))},
		{"a right half", of(green, "日b"), api.Rect{X: 1, W: 1, H: 1}, joined(cellsOf(green, " "), cellsOf(red, "z"), cellsOf(green, "b"))},
		{"halves on both sides", of(green, "日本"), api.Rect{X: 1, W: 2, H: 1}, joined(cellsOf(green, " "), cellsOf(red, "zz"), cellsOf(green, " "))},
		{"both halves", of(green, "a日b"), api.Rect{X: 1, W: 2, H: 1}, joined(cellsOf(green, "a"), cellsOf(red, "zz"), cellsOf(green, "b"))},
		{"halves in two rows", of(red, "日", "本"), api.Rect{X: 1, W: 1, H: 2}, of(red, " z", " z")},
	} {
		got, e := Fill(c.g, c.r, z)
		expect(t, "Fill of "+c.what, got, e, c.want)
	}
}

// X, Y, W and H count as at least - 1000 and at most 1000, each by itself.
func TestFillFarAway(t *testing.T) {
	g := of(red, "abcd", "efgh")
	z := api.Cell{R: 'z', S: red}
	all, none := of(red, "zzzz", "zzzz"), g
	for _, c := range []struct {
		r    api.Rect
		want api.Grid
	}{
		{api.Rect{X: -998, Y: -999, W: 1000, H: 1000}, of(red, "zzcd", "efgh")},
		{api.Rect{X: -998, Y: 0, W: 1001, H: 1}, of(red, "zzcd", "efgh")},
		{api.Rect{X: -998, Y: 0, W: 5000, H: 1}, of(red, "zzcd", "efgh")},
		{api.Rect{X: -998, Y: 0, W: math.MaxInt, H: 1}, of(red, "zzcd", "efgh")},
		{api.Rect{X: 1, Y: -999, W: 1, H: 1001}, of(red, "azcd", "efgh")},
		{api.Rect{X: 1, Y: -999, W: 1, H: math.MaxInt}, of(red, "azcd", "efgh")},
		{api.Rect{X: -1000, Y: 0, W: 1000, H: 2}, none},
		{api.Rect{X: -1000, Y: 0, W: 1002, H: 2}, none},
		{api.Rect{X: -1002, Y: 0, W: 1000, H: 2}, none},
		{api.Rect{X: -5000, Y: 0, W: 9000, H: 2}, none},
		{api.Rect{X: 0, Y: -5000, W: 4, H: 9000}, none},
		{api.Rect{X: -500, Y: -500, W: 1000, H: 1000}, all},
		{api.Rect{X: -500, Y: -500, W: math.MaxInt, H: math.MaxInt}, all},
		{api.Rect{X: math.MaxInt, Y: 0, W: math.MaxInt, H: 2}, none},
		{api.Rect{X: 0, Y: math.MaxInt, W: 4, H: math.MaxInt}, none},
		{api.Rect{X: math.MinInt, Y: math.MinInt, W: math.MaxInt, H: math.MaxInt}, none},
		{api.Rect{X: 0, Y: 0, W: math.MinInt, H: math.MinInt}, none},
		{api.Rect{X: math.MinInt, Y: 0, W: math.MinInt, H: 1}, none},
		{api.Rect{X: 0, Y: math.MinInt, W: 1, H: math.MinInt}, none},
	} {
		got, e := Fill(g, c.r, z)
		expect(t, "Fill far away", got, e, c.want)
	}
}

func TestFillOfEveryPart(t *testing.T) {
	c := api.Cell{R: 'é', S: green}
	for _, g := range rightGrids() {
		for x := -2; x <= g.W; x++ {
			for w := -1; w <= g.W+2; w++ {
				r := api.Rect{X: x, Y: g.H - 1, W: w, H: 1}
				want := model(g.W, g.H, func(i, k int) api.Cell {
					if i >= x && i < x+w && k == g.H-1 {
						return c
					}
					return at(g, i, k)
				})
				got, e := Fill(g, r, c)
				expect(t, "Fill", got, e, want)
			}
		}
	}
}

func TestFillWrong(t *testing.T) {
	g := of(red, "日b")
	for _, c := range []api.Cell{{}, {R: 0, S: red}, {R: '日'}, {R: '\n'}, {R: 0x301}, {R: -1}, {R: 0x110000}, {R: 0xD800}, {R: math.MinInt32}, {R: math.MaxInt32}, {R: 'a', S: wrong}, {R: 'a', S: api.Style{Back: -1}}, {R: 'a', S: api.Style{Bits: 128}}} {
		for _, r := range []api.Rect{{}, {W: 1, H: 1}, {X: 50, Y: 50, W: 1, H: 1}} {
			got, e := Fill(g, r, c)
			refuse(t, "Fill with a wrong cell", got, e, api.ErrRange)
		}
	}
}

func TestWrite(t *testing.T) {
	g := of(green, "abcdef", "日本語")
	first, second := cellsOf(green, "abcdef"), cellsOf(green, "日本語")
	upper := func(pieces ...[]api.Cell) api.Grid {
		return api.Grid{W: 6, H: 2, Cells: append(slices.Concat(pieces...), second...)}
	}
	lower := func(pieces ...[]api.Cell) api.Grid {
		return api.Grid{W: 6, H: 2, Cells: append(slices.Clone(first), slices.Concat(pieces...)...)}
	}
	for _, c := range []struct {
		x, y int
		s    string
		want api.Grid
	}{
		{0, 0, "", g},
		{0, 1, "", g},
		{1, 1, "", g},
		{0, 0, "xy", upper(cellsOf(red, "xy"), first[2:])},
		{5, 0, "xy", upper(first[:5], cellsOf(red, "x"))},
		{0, 0, "uvwxyz", upper(cellsOf(red, "uvwxyz"))},
		{0, 0, "uvwxyz!", upper(cellsOf(red, "uvwxyz"))},
		{2, 0, "日x", upper(first[:2], cellsOf(red, "日x"), first[5:])},
		{4, 0, "日x", upper(first[:4], cellsOf(red, "日"))},
		// up to the first that has no room, though one behind it would have it
		{5, 0, "日x", g},
		{4, 0, "x日y", upper(first[:4], cellsOf(red, "x"), first[5:])},
		{0, 0, "日本x語y", upper(cellsOf(red, "日本x"), first[5:])},
		// runes that take no cell are left out, also where there is no room
		{0, 0, "\n\u0301x\u200b\x00y\x7f", upper(cellsOf(red, "xy"), first[2:])},
		{5, 0, "x\u0301", upper(first[:5], cellsOf(red, "x"))},
		{5, 0, "\u0301x\u0301\u0301y", upper(first[:5], cellsOf(red, "x"))},
		{1, 1, "\u0301\n", g},
		// wrong bytes, each by itself
		{0, 0, "\xe6\x97x", upper(cellsOf(red, "\ufffd\ufffdx"), first[3:])},
		{0, 0, "\xff日", upper(cellsOf(red, "\ufffd日"), first[3:])},
		// halves
		{0, 1, "x", lower(cellsOf(red, "x"), cellsOf(green, " 本語"))},
		{1, 1, "x", lower(cellsOf(green, " "), cellsOf(red, "x"), cellsOf(green, "本語"))},
		{1, 1, "日", lower(cellsOf(green, " "), cellsOf(red, "日"), cellsOf(green, " 語"))},
		{1, 1, "xy", lower(cellsOf(green, " "), cellsOf(red, "xy"), cellsOf(green, " 語"))},
		{3, 1, "日", lower(cellsOf(green, "日 "), cellsOf(red, "日"), cellsOf(green, " "))},
		{5, 1, "x", lower(cellsOf(green, "日本 "), cellsOf(red, "x"))},
		{5, 1, "日", g},
		{0, 1, "日本語", lower(cellsOf(red, "日本語"))},
		{2, 1, "日", lower(cellsOf(green, "日"), cellsOf(red, "日"), cellsOf(green, "語"))},
	} {
		got, e := Write(g, c.x, c.y, c.s, red)
		expect(t, "Write of "+c.s, got, e, c.want)
	}
	long := strings.Repeat("\u0301", 9*api.MaxText) + strings.Repeat("z", 9*api.MaxText)
	got, e := Write(g, 1, 0, long, green)
	expect(t, "Write of a long text", got, e, upper(cellsOf(green, "azzzzz")))
}

func TestWriteWrong(t *testing.T) {
	g := of(plain, "abc", "d日")
	for _, c := range [][2]int{{-1, 0}, {0, -1}, {3, 0}, {0, 2}, {3, 2}, {-1, 1}, {3, -1}, {-1, -1}, {2, 3}, {0, 4}} {
		got, e := Write(g, c[0], c[1], "x", red)
		refuse(t, "Write outside", got, e, api.ErrRange)
		got, e = Write(g, c[0], c[1], "", red)
		refuse(t, "Write of nothing outside", got, e, api.ErrRange)
	}
	for _, n := range extremes {
		got, e := Write(g, n, 0, "x", red)
		refuse(t, "Write far away", got, e, api.ErrRange)
		got, e = Write(g, 0, n, "x", red)
		refuse(t, "Write far away", got, e, api.ErrRange)
	}
	for _, look := range []api.Style{wrong, {Back: -1}, {Bits: 128}, {Bits: -1}} {
		if style.Check(look) {
			t.Fatalf("%v is a style", look)
		}
		got, e := Write(g, 0, 0, "x", look)
		refuse(t, "Write without a style", got, e, api.ErrRange)
		got, e = Write(g, 0, 0, "", look)
		refuse(t, "Write of nothing without a style", got, e, api.ErrRange)
	}
}

// P3.3

func TestLay(t *testing.T) {
	on := of(green, "abcdef", "日本語", "ghijkl")
	for _, c := range []struct {
		what string
		g    api.Grid
		x, y int
		want []string // rows, of which what is laid is told by look
		look []string
	}{
		{"at the beginning", of(red, "xy"), 0, 0, []string{"xycdef", "日本語", "ghijkl"}, []string{"rrgggg", "gggggg", "gggggg"}},
		{"at the end", of(red, "xy"), 4, 2, []string{"abcdef", "日本語", "ghijxy"}, []string{"gggggg", "gggggg", "ggggrr"}},
		{"two rows", of(red, "xy", "日"), 2, 0, []string{"abxyef", "日日語", "ghijkl"}, []string{"ggrrgg", "ggrrgg", "gggggg"}},
		{"upon halves", of(red, "xy"), 1, 1, []string{"abcdef", " xy 語", "ghijkl"}, []string{"gggggg", "grrggg", "gggggg"}},
		{"wide upon halves", of(red, "日"), 1, 1, []string{"abcdef", " 日 語", "ghijkl"}, []string{"gggggg", "grrggg", "gggggg"}},
		{"over the right edge", of(red, "日本"), 5, 0, []string{"abcde ", "日本語", "ghijkl"}, []string{"gggggr", "gggggg", "gggggg"}},
		{"over the right edge, whole", of(red, "日本"), 4, 0, []string{"abcd日", "日本語", "ghijkl"}, []string{"ggggrr", "gggggg", "gggggg"}},
		{"over the left edge", of(red, "日本"), -1, 1, []string{"abcdef", " 本 語", "ghijkl"}, []string{"gggggg", "rrrggg", "gggggg"}},
		{"over the left edge, whole", of(red, "日本"), -2, 1, []string{"abcdef", "本本語", "ghijkl"}, []string{"gggggg", "rrgggg", "gggggg"}},
		{"over the upper edge", of(red, "x", "y"), 0, -1, []string{"ybcdef", "日本語", "ghijkl"}, []string{"rggggg", "gggggg", "gggggg"}},
		{"over the lower edge", of(red, "x", "y"), 0, 2, []string{"abcdef", "日本語", "xhijkl"}, []string{"gggggg", "gggggg", "rggggg"}},
		{"over all edges", of(red, "........", "........", "........", "........", "........"), -1, -1, []string{"......", "......", "......"}, []string{"rrrrrr", "rrrrrr", "rrrrrr"}},
		{"beside it", of(red, "xy"), 6, 0, []string{"abcdef", "日本語", "ghijkl"}, []string{"gggggg", "gggggg", "gggggg"}},
		{"left of it", of(red, "xy"), -2, 0, []string{"abcdef", "日本語", "ghijkl"}, []string{"gggggg", "gggggg", "gggggg"}},
		{"above it", of(red, "xy"), 0, -1, []string{"abcdef", "日本語", "ghijkl"}, []string{"gggggg", "gggggg", "gggggg"}},
		{"below it", of(red, "xy"), 0, 3, []string{"abcdef", "日本語", "ghijkl"}, []string{"gggggg", "gggggg", "gggggg"}},
	} {
		want := of(green, c.want...)
		for i, l := range strings.Join(c.look, "") {
			if l == 'r' {
				want.Cells[i].S = red
			}
		}
		got, e := Lay(c.g, on, c.x, c.y)
		expect(t, "Lay "+c.what, got, e, want)
	}
}

func TestLayFarAway(t *testing.T) {
	g, on := of(red, "日本"), of(green, "abc", "def")
	for _, n := range append(extremes, -1001, -1000, -999, -4, 3, 999, 1000, 1001) {
		got, e := Lay(g, on, n, 0)
		expect(t, "Lay far away", got, e, on)
		got, e = Lay(g, on, 0, n)
		expect(t, "Lay far away", got, e, on)
		got, e = Lay(g, on, n, n)
		expect(t, "Lay far away", got, e, on)
	}
}

func TestLayEverywhere(t *testing.T) {
	grids := rightGrids()
	for _, on := range grids {
		for _, g := range grids[len(grids)-60:] {
			for x := -3; x <= on.W; x++ {
				for y := -1; y <= on.H; y++ {
					want := model(on.W, on.H, func(i, k int) api.Cell {
						if i >= x && i < x+g.W && k >= y && k < y+g.H {
							return at(g, i-x, k-y)
						}
						return at(on, i, k)
					})
					got, e := Lay(g, on, x, y)
					expect(t, "Lay", got, e, want)
				}
			}
		}
	}
}

func TestPart(t *testing.T) {
	g := of(red, "日本語", "a日bcd", "efghij")
	for _, c := range []struct {
		r    api.Rect
		want []string
	}{
		{api.Rect{X: 0, Y: 0, W: 6, H: 3}, []string{"日本語", "a日bcd", "efghij"}},
		{api.Rect{X: 0, Y: 0, W: 1, H: 1}, []string{" "}},
		{api.Rect{X: 1, Y: 0, W: 1, H: 1}, []string{" "}},
		{api.Rect{X: 5, Y: 2, W: 1, H: 1}, []string{"j"}},
		{api.Rect{X: 1, Y: 0, W: 4, H: 2}, []string{" 本 ", "日bc"}},
		{api.Rect{X: 2, Y: 0, W: 2, H: 3}, []string{"本", " b", "gh"}},
		{api.Rect{X: 0, Y: 1, W: 2, H: 2}, []string{"a ", "ef"}},
	} {
		got, e := Part(g, c.r)
		expect(t, "Part", got, e, of(red, c.want...))
	}
}

func TestPartOfEveryPart(t *testing.T) {
	for _, g := range rightGrids() {
		for x := -1; x <= g.W+1; x++ {
			for y := -1; y <= g.H+1; y++ {
				for w := -1; w <= g.W+1; w++ {
					for h := -1; h <= g.H+1; h++ {
						got, e := Part(g, api.Rect{X: x, Y: y, W: w, H: h})
						if x < 0 || y < 0 || w < 1 || h < 1 || x+w > g.W || y+h > g.H {
							refuse(t, "Part", got, e, api.ErrRange)
							continue
						}
						expect(t, "Part", got, e, model(w, h, func(i, k int) api.Cell { return at(g, x+i, y+k) }))
					}
				}
			}
		}
	}
}

func TestPartFarAway(t *testing.T) {
	g := of(plain, "abc", "def")
	for _, n := range append(extremes, -1000, 1000, 1<<32) {
		for _, r := range []api.Rect{{X: n, W: 1, H: 1}, {Y: n, W: 1, H: 1}, {W: n, H: 1}, {W: 1, H: n}, {X: n, Y: n, W: n, H: n}, {X: 1, W: n, H: 1}, {Y: 1, W: 1, H: n}, {X: n, W: -n, H: 1}, {Y: n, W: 1, H: -n}, {X: n, W: 1 - n, H: 1}} {
			got, e := Part(g, r)
			refuse(t, "Part far away", got, e, api.ErrRange)
		}
	}
}

func TestResize(t *testing.T) {
	g := of(red, "日本", "abcd")
	narrow := joined(cellsOf(red, "日 "))
	for _, c := range []struct {
		w, h int
		want api.Grid
	}{
		{4, 2, g},
		{4, 1, of(red, "日本")},
		{3, 1, narrow},
		{1, 2, of(red, " ", "a")},
		{2, 2, of(red, "日", "ab")},
		{5, 3, api.Grid{W: 5, H: 3, Cells: slices.Concat(cellsOf(red, "日本"), cellsOf(plain, " "), cellsOf(red, "abcd"), cellsOf(plain, "      "))}},
		{3, 3, api.Grid{W: 3, H: 3, Cells: slices.Concat(cellsOf(red, "日 abc"), cellsOf(plain, "   "))}},
	} {
		got, e := Resize(g, c.w, c.h)
		expect(t, "Resize", got, e, c.want)
	}
	got, e := Resize(g, api.MaxWide, api.MaxHigh)
	expect(t, "Resize to the greatest", got, e, model(api.MaxWide, api.MaxHigh, func(x, y int) api.Cell {
		if x < 4 && y < 2 {
			return at(g, x, y)
		}
		return api.Cell{R: ' '}
	}))
	for _, c := range [][2]int{{0, 1}, {1, 0}, {-1, 2}, {2, -1}, {api.MaxWide + 1, 1}, {1, api.MaxHigh + 1}, {math.MaxInt, math.MaxInt}, {math.MinInt, 1}, {1, math.MinInt}} {
		got, e := Resize(g, c[0], c[1])
		refuse(t, "Resize to a wrong size", got, e, api.ErrSize)
	}
}

func TestResizeEverywhere(t *testing.T) {
	for _, g := range rightGrids() {
		for w := 1; w <= g.W+2; w++ {
			for h := 1; h <= g.H+1; h++ {
				got, e := Resize(g, w, h)
				expect(t, "Resize", got, e, model(w, h, func(x, y int) api.Cell {
					if x < g.W && y < g.H {
						return at(g, x, y)
					}
					return api.Cell{R: ' '}
				}))
			}
		}
	}
}

// P3.4

func TestLines(t *testing.T) {
	for _, c := range []struct {
		g    api.Grid
		want []string
	}{
		{of(plain, " "), []string{""}},
		{of(red, "a b  ", " 日 c", "     ", "    x", "日 本"), []string{"a b", " 日 c", "", "    x", "日 本"}},
		{of(red, "日本", "日  ", " 本 "), []string{"日本", "日", " 本"}},
		{joined(cellsOf(plain, "a"), cellsOf(red, "  ")), []string{"a"}},
		{of(plain, "a\u00a0 "), []string{"a\u00a0"}}, // this one is no blank
		{of(plain, "a\u3000"), []string{"a\u3000"}},  // nor is this wide one
		{of(plain, "\ufffd\U0001F600é"), []string{"\ufffd\U0001F600é"}},
	} {
		if got, e := Lines(c.g); e != api.OK || !slices.Equal(got, c.want) {
			t.Errorf("Lines: %q, %d, want %q, 0", got, e, c.want)
		}
	}
	g, _ := New(api.MaxWide, api.MaxHigh)
	if got, e := Lines(g); e != api.OK || !slices.Equal(got, make([]string, api.MaxHigh)) {
		t.Errorf("Lines of the greatest: %q, %d", got, e)
	}
}

func TestLinesOfWhatWasWritten(t *testing.T) {
	g, _ := New(20, 2)
	for _, s := range []string{"", "a", "a b", "日本 語x", "日本日本日本日本日本", "01234567890123456789"} {
		w, e := Write(g, 0, 1, s, red)
		if e != api.OK {
			t.Fatalf("Write(%q): %d", s, e)
		}
		if got, e := Lines(w); e != api.OK || !slices.Equal(got, []string{"", s}) {
			t.Errorf("Lines: %q, %d, want %q", got, e, s)
		}
	}
}

// P3.5 (that what is answered passes Check, expect asks everywhere above)

func TestPartOfWhatWasLaid(t *testing.T) {
	grids := rightGrids()
	for _, on := range grids {
		for _, g := range grids {
			for x := 0; x+g.W <= on.W; x++ {
				for y := 0; y+g.H <= on.H; y++ {
					laid, e := Lay(g, on, x, y)
					if e != api.OK {
						t.Fatalf("Lay: %d", e)
					}
					got, e := Part(laid, api.Rect{X: x, Y: y, W: g.W, H: g.H})
					expect(t, "Part of what was laid", got, e, g)
				}
			}
		}
	}
}

func TestLayChangesOnlyHalvesBesideIt(t *testing.T) {
	grids := rightGrids()
	for _, on := range grids {
		for _, g := range grids {
			for x := -2; x <= on.W; x++ {
				laid, e := Lay(g, on, x, 0)
				if e != api.OK || laid.W != on.W || laid.H != on.H {
					t.Fatalf("Lay: %v, %d", laid, e)
				}
				for i := range on.W {
					for k := range on.H {
						was, is := at(on, i, k), at(laid, i, k)
						if i >= x && i < x+g.W && k < g.H || was == is {
							continue
						}
						half := was.R == 0 && i == x+g.W || text.Width(was.R) == 2 && i == x-1
						if !half || k >= g.H || is.R != ' ' || is.S != was.S {
							t.Fatalf("Lay(%v, %v, %d, 0): the cell %d, %d was %v, and is %v", g, on, x, i, k, was, is)
						}
					}
				}
			}
		}
	}
}

// What is handed in, and the room behind it, stays; what is answered shares nothing with it.
func TestOnlyRead(t *testing.T) {
	guard := api.Cell{R: '#', S: red}
	room := func(g api.Grid) api.Grid {
		g.Cells = append(slices.Clone(g.Cells), guard, guard, guard)[:len(g.Cells)]
		return g
	}
	first, second := of(green, "日本", "abcd"), of(red, "xyz", "日z", "本z")
	g, on := room(first), room(second)
	for what, call := range map[string]func() (api.Grid, api.Errno){
		"Fill":            func() (api.Grid, api.Errno) { return Fill(g, api.Rect{X: 1, W: 1, H: 2}, api.Cell{R: 'q'}) },
		"Fill of nothing": func() (api.Grid, api.Errno) { return Fill(g, api.Rect{}, api.Cell{R: 'q'}) },
		"Write":           func() (api.Grid, api.Errno) { return Write(g, 1, 0, "日日日", red) },
		"Write nothing":   func() (api.Grid, api.Errno) { return Write(g, 1, 0, "", red) },
		"Lay":             func() (api.Grid, api.Errno) { return Lay(g, on, 1, 1) },
		"Lay beside it":   func() (api.Grid, api.Errno) { return Lay(g, on, 9, 9) },
		"Lay upon itself": func() (api.Grid, api.Errno) { return Lay(g, g, 1, 1) },
		"Part":            func() (api.Grid, api.Errno) { return Part(g, api.Rect{W: 4, H: 2}) },
		"Resize":          func() (api.Grid, api.Errno) { return Resize(g, 4, 2) },
		"Resize narrower": func() (api.Grid, api.Errno) { return Resize(g, 3, 2) },
	} {
		got, e := call()
		if e != api.OK {
			t.Fatalf("%s: %d", what, e)
		}
		again, _ := call()
		if !equal(got, again) {
			t.Errorf("%s answers %v, then %v", what, got, again)
		}
		all := got.Cells[:cap(got.Cells)]
		for i := range all {
			all[i] = api.Cell{R: '!', S: green}
		}
		if !equal(g, first) || !equal(on, second) {
			t.Fatalf("%s changes or shares what was handed in: %v, %v", what, g, on)
		}
		for _, l := range [][]api.Cell{g.Cells, on.Cells} {
			if rest := l[len(l):cap(l)]; rest[0] != guard || rest[1] != guard || rest[2] != guard {
				t.Fatalf("%s changes the room behind what was handed in: %v", what, rest)
			}
		}
	}
	a, _ := New(2, 2)
	a.Cells[0].R = 'x'
	if b, _ := New(2, 2); b.Cells[0].R != ' ' || b.Cells[1].R != ' ' || a.Cells[1].R != ' ' {
		t.Error("two New ones share memory")
	}
}
