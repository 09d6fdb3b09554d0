package render

import (
	"fmt"
	"reflect"
	"slices"
	"strings"
	"testing"

	"trellis/api"
	"trellis/grid"
	"trellis/put"
	"trellis/screen"
	"trellis/style"
	"trellis/text"
)

// fullLook: no style takes more bytes.
var fullLook = api.Style{Fore: 256, Back: 256, Bits: 127}

// of rows: a grid as wide as w, in that look.
func of(w int, look api.Style, rows ...string) api.Grid {
	g := blank(w, len(rows))
	for y, row := range rows {
		var e api.Errno
		g, e = grid.Write(g, 0, y, row, look)
		if e != api.OK {
			panic(fmt.Sprintf("%q: %d", rows, e))
		}
	}
	return g
}

func blank(w, h int) api.Grid {
	g, e := grid.New(w, h)
	if e != api.OK {
		panic(fmt.Sprintf("%d times %d: %d", w, h, e))
	}
	return g
}

// with s in look at x, y of g, too.
func with(g api.Grid, x, y int, s string, look api.Style) api.Grid {
	g, e := grid.Write(g, x, y, s, look)
	if e != api.OK {
		panic(fmt.Sprintf("%d, %d: %d", x, y, e))
	}
	return g
}

// showing g: a screen that Turn may be read by, with its cursor at x, y, and all else told by nothing that Turn knows.
func showing(g api.Grid, x, y int, hidden bool) api.Screen {
	s, _ := put.New(g.W, g.H)
	s.G, s.X, s.Y = g, x, y
	s.Late = x == g.W-1
	if hidden {
		s.Modes |= api.Hidden
	}
	s.K = api.Kept{X: g.W - 1, Y: g.H - 1, S: fullLook, Modes: api.Origin}
	for i := range s.Tabs {
		s.Tabs[i] = i%3 == 1
	}
	s.Title, s.Last = "a title", '語'
	s.Gone = [][]api.Cell{{{R: 'g'}}, {{R: '日', S: fullLook}, {S: fullLook}}}
	return s
}

// read by s: b, in as many pieces as Feed asks for.
func read(t *testing.T, s api.Screen, b string) api.Screen {
	t.Helper()
	in := api.State{}
	for piece := range slices.Chunk([]byte(b), api.MaxText) {
		var e api.Errno
		s, in, e = screen.Feed(s, in, string(piece))
		if e != api.OK {
			t.Fatalf("a piece of %q: %d", b, e)
		}
	}
	if !reflect.DeepEqual(in, api.State{}) {
		t.Errorf("%q: the reader is at %v", b, in)
	}
	return s
}

// isLeft as Turn has it: s, which shows to, with its cursor at x, y; all else as before has it.
func isLeft(t *testing.T, what string, s, before api.Screen, to api.Grid, x, y int) {
	t.Helper()
	want := before
	want.G, want.X, want.Y, want.Late, want.S, want.Modes = to, x, y, false, api.Style{}, api.Wrap
	if x == -1 {
		want.X, want.Y, want.Late, want.Modes = s.X, s.Y, s.Late, api.Wrap|api.Hidden
	}
	want.Last = s.Last
	if !reflect.DeepEqual(s, want) {
		t.Errorf("%s:\n%v, want\n%v", what, s, want)
	}
	if e := put.Check(s); e != api.OK {
		t.Errorf("%s: no screen any more: %d", what, e)
	}
}

// isFew: has b at most as many bytes as a grid of that size may take?
func isFew(t *testing.T, what, b string, g api.Grid) {
	t.Helper()
	if len(b) > 60*g.W*g.H+60 {
		t.Errorf("%s: %d bytes for %d times %d", what, len(b), g.W, g.H)
	}
}

// turned: s shows to then, by Turn's bytes.
func turned(t *testing.T, s api.Screen, to api.Grid, x, y int) api.Screen {
	t.Helper()
	b, e := Turn(s.G, to, x, y)
	what := fmt.Sprintf("turn from %v to %v, cursor %d, %d: %q", lines(s.G), lines(to), x, y, b)
	if e != api.OK {
		t.Fatalf("%s: %d", what, e)
	}
	isFew(t, what, b, to)
	out := read(t, s, b)
	isLeft(t, what, out, s, to, x, y)
	return out
}

func lines(g api.Grid) []string {
	l, _ := grid.Lines(g)
	return l
}

// drawnAnew: s shows to then, by All's bytes.
func drawnAnew(t *testing.T, s api.Screen, to api.Grid, x, y int) {
	t.Helper()
	b, e := All(to, x, y)
	what := fmt.Sprintf("all of %v, cursor %d, %d, on %v: %q", lines(to), x, y, s, b)
	if e != api.OK {
		t.Fatalf("%s: %d", what, e)
	}
	isFew(t, what, b, to)
	first, _ := put.New(to.W, to.H)
	first.Gone = s.Gone
	isLeft(t, what, read(t, s, b), first, to, x, y)
}

// pages: from and to, by what may go wrong between them.
func pages() []struct {
	what     string
	from, to api.Grid
} {
	bold, red, none := api.Style{Bits: api.Bold}, api.Style{Back: 2}, api.Style{}
	return []struct {
		what     string
		from, to api.Grid
	}{
		{"nothing differs", of(4, none, "ab日", "c"), of(4, none, "ab日", "c")},
		{"nothing was there", blank(4, 2), of(4, none, "ab日", "c")},
		{"nothing is there then", of(4, none, "ab日", "c"), blank(4, 2)},
		{"only the look differs", of(4, none, "ab日", "c"), of(4, bold, "ab日", "c")},
		{"looks differ, of blanks, too", of(4, red, "    ", "c"), of(4, bold, "    ", "c")},
		{"a rune over the left half", of(4, none, "a日b"), of(4, none, "ax b")},
		{"a rune over the right half", of(4, none, "a日b"), of(4, none, "a xb")},
		{"runes over both halves", of(4, none, "a日b"), of(4, none, "axyb")},
		{"a wide rune over two", of(4, none, "axyb"), of(4, none, "a日b")},
		{"a wide rune moves right", of(5, none, "日本x"), of(5, none, "a日本")},
		{"a wide rune moves left", of(5, none, "a日本"), of(5, none, "日本x")},
		{"what is cut stays in its look", of(4, red, "a日b"), with(of(4, red, "a日b"), 2, 0, "x", none)},
		{"another wide rune", of(4, none, "a日b"), of(4, none, "a本b")},
		{"a wide rune in another look", of(4, none, "a日b"), with(of(4, none, "a日b"), 1, 0, "日", red)},
		{"wide runes to the edge", of(4, none, "abcd", "efgh"), of(4, none, "日本", "語日")},
		{"the last cell", of(3, none, "abc", "def"), of(3, none, "abc", "dex")},
		{"the last column", of(3, none, "abc", "def", "ghi"), of(3, none, "abx", "dey", "ghz")},
		{"the first column", of(3, none, "abc", "def", "ghi"), of(3, none, "xbc", "yef", "zhi")},
		{"one column", of(1, none, "a", "b", "c"), of(1, bold, "x", "b", "y")},
		{"one row", of(5, none, "abcde"), of(5, bold, "xbcdy")},
		{"one cell", of(1, none, "a"), of(1, red, "b")},
		{"the same rune again", of(20, none, strings.Repeat("ab", 10)), of(20, none, strings.Repeat("a", 20))},
		{"the same wide rune again", of(20, none, strings.Repeat("ab", 10)), of(20, red, strings.Repeat("語", 10))},
		{"the same rune, in rows to the edge", blank(9, 3), of(9, fullLook, "─────────", "─────────", "─────────")},
		{"with others between that stay", of(9, none, "a.b.c.d.e"), of(9, none, "x.y.z.u.v")},
		{"with others between, in their looks", with(of(9, none, "ab.......e"), 3, 0, ".", bold), with(of(9, none, "xb......y"), 3, 0, ".", bold)},
		{"with wide ones between", of(8, none, "a日本b日c"), of(8, none, "x日本y日z")},
		{"runes of four bytes", blank(4, 1), of(4, none, "\U00020000\U0010ffff\uffff")},
		{"the rune that stands for no rune", blank(2, 1), of(2, none, "\ufffd\u00a0")},
		{"signs that begin commands", blank(8, 1), of(8, none, "[1m;?c7]")},
	}
}

// cursors of a grid: all of its cells, and none.
func cursors(w, h int) [][2]int {
	l := [][2]int{{-1, -1}}
	for y := range h {
		for x := range w {
			l = append(l, [2]int{x, y})
		}
	}
	return l
}

func TestTurn(t *testing.T) {
	for _, p := range pages() {
		t.Run(p.what, func(t *testing.T) {
			for _, c := range cursors(p.to.W, p.to.H) {
				s := turned(t, showing(p.from, 0, 0, false), p.to, c[0], c[1])
				s = turned(t, s, p.from, -1, -1)
				turned(t, s, p.to, c[0], c[1])
			}
		})
	}
}

// The cursor may be wherever it is, and be seen or not.
func TestTurnFromAnywhere(t *testing.T) {
	for _, p := range pages() {
		t.Run(p.what, func(t *testing.T) {
			for _, c := range cursors(p.from.W, p.from.H)[1:] {
				for _, hidden := range []bool{false, true} {
					s := showing(p.from, c[0], c[1], hidden)
					turned(t, s, p.to, c[0], c[1])
					turned(t, s, p.to, -1, -1)
					s.Late = false
					turned(t, s, p.to, p.to.W-1, p.to.H-1)
				}
			}
		})
	}
}

func TestAll(t *testing.T) {
	for _, p := range pages() {
		t.Run(p.what, func(t *testing.T) {
			for _, c := range cursors(p.to.W, p.to.H) {
				s := showing(p.from, p.from.W-1, p.from.H-1, true)
				drawnAnew(t, s, p.to, c[0], c[1])
				s.S, s.Modes, s.Late = fullLook, 63&^api.Wrap, false
				drawnAnew(t, s, p.to, c[0], c[1])
				if s.Bottom > 1 {
					s.Modes, s.Top = 63, 1
					drawnAnew(t, s, p.to, c[0], c[1])
				}
			}
		})
	}
}

// What is behind the last column is known to be there: no rune goes to the next row, and no row leaves.
func TestTurnFullRows(t *testing.T) {
	from := blank(5, 4)
	to := of(5, api.Style{Fore: 3}, "abcde", "fgh日", "ijklm", "nopqr")
	for _, c := range cursors(5, 4) {
		s := turned(t, showing(from, 4, 3, false), to, c[0], c[1])
		if len(s.Gone) != 2 {
			t.Errorf("cursor %v: %d rows are gone", c, len(s.Gone))
		}
	}
}

// Each style that differs from another in one thing, one beside the other.
func TestTurnLooks(t *testing.T) {
	looks := []api.Style{{}, fullLook}
	for bit := 1; bit < 128; bit *= 2 {
		looks = append(looks, api.Style{Bits: bit}, api.Style{Bits: 127 &^ bit, Fore: 9}, api.Style{Bits: bit, Back: 16})
	}
	for _, c := range []int{1, 8, 9, 16, 17, 256} {
		looks = append(looks, api.Style{Fore: c}, api.Style{Back: c}, api.Style{Fore: c, Back: c, Bits: api.Under})
	}
	for i, look := range looks {
		if !style.Check(look) {
			t.Fatalf("%v is no style", look)
		}
		from, to := of(len(looks), look, strings.Repeat("x", len(looks))), blank(len(looks), 1)
		for k, other := range looks {
			to = with(to, k, 0, "x", other)
		}
		s := turned(t, showing(from, 0, 0, false), to, i, 0)
		turned(t, s, from, -1, -1)
		drawnAnew(t, s, to, i, 0)
	}
}

// No rune that a cell may have does anything but stand there.
func TestTurnRunes(t *testing.T) {
	var l []rune
	for r := rune(0); r <= 0x10ffff; r++ {
		near := r < 0x3200 || r >= 0xa400 && r < 0xac10 || r > 0xd780 && r < 0x10010 || r > 0x1f2f0 && r < 0x1fa10 || r > 0x3fff0 && r < 0x40010 || r > 0x10fff0
		if near && text.Width(r) > 0 {
			l = append(l, r)
		}
	}
	s := showing(blank(60, 2), 0, 0, false)
	for part := range slices.Chunk(l, 30) {
		s.G = blank(60, 2)
		to := with(blank(60, 2), 0, 1, string(part), api.Style{})
		b, e := Turn(s.G, to, 59, 1)
		if e != api.OK {
			t.Fatalf("%q: %d", part, e)
		}
		isLeft(t, fmt.Sprintf("%q", part), read(t, s, b), s, to, 59, 1)
	}
}

// costs: at most so many bytes, beside those that hide the cursor.
func costs(t *testing.T, what string, from, to api.Grid, most int) {
	t.Helper()
	costsAt(t, what, from, to, -1, -1, most)
}

// costsAt: likewise, with the cursor at x, y, and beside those that show it.
func costsAt(t *testing.T, what string, from, to api.Grid, x, y, most int) {
	t.Helper()
	b, e := Turn(from, to, x, y)
	if e != api.OK {
		t.Fatalf("%s: %d", what, e)
	}
	if len(b) > most+6 {
		t.Errorf("%s: more than %d and 6 bytes: %q", what, most, b)
	}
}

// Only what differs is told, and shortly, since not many bytes may wait for a viewer.
func TestTurnIsShort(t *testing.T) {
	none, wide, high := api.Style{}, api.MaxWide, api.MaxHigh
	full := of(wide, none, slices.Repeat([]string{strings.Repeat("abcdefgh", 15)}, high)...)
	costs(t, "nothing", full, full, 0)
	costs(t, "a rune", full, with(full, 119, 59, "x", none), 9+1)
	costs(t, "a rune in a look", full, with(full, 1, 1, "x", api.Style{Bits: api.Bold}), 6+4+1+4)
	costs(t, "runes in a row", full, with(full, 1, 1, "xyzuv", none), 6+5)
	costs(t, "runes in rows", full, with(with(full, 0, 1, "xyz", none), 0, 2, "xyz", none), 6+3+2+3)
	costs(t, "runes not far from each other", full, with(with(full, 1, 1, "x", none), 3, 1, "x", none), 6+3)
	costs(t, "runes with a wide one between", of(4, none, "a日b"), of(4, none, "x日y"), 6+1+3+1)
	costs(t, "runes far from each other", full, with(with(full, 1, 1, "x", none), 30, 1, "x", none), 6+1+5+1)
	costs(t, "all of a row", full, with(full, 0, 1, strings.Repeat("x", wide), none), 6+1+6)
	costs(t, "all of it", full, blank(wide, high), 6+high*(2+1+6))
	costs(t, "all of it in a look", blank(wide, high), of(wide, fullLook, slices.Repeat([]string{strings.Repeat("─", wide)}, high)...), 6+36+high*(2+3+6)+4)
	costs(t, "two wide runes", blank(9, 1), of(9, none, "日日"), 6+6)
	costs(t, "three wide runes", blank(9, 1), of(9, none, "日日日"), 6+3+4)
	costs(t, "a run, with what stays between", of(9, none, "ab cd e f"), blank(9, 1), 6+1+4)
	costs(t, "not more of a run than differs", of(30, none, "ab"), blank(30, 1), 6+2)
	costsAt(t, "the cursor alone", full, full, 119, 59, 9)
	costsAt(t, "a rune, and the cursor behind it", full, with(full, 5, 1, "x", none), 6, 1, 6+1)
	costsAt(t, "a rune, and the cursor on it", full, with(full, 5, 1, "x", none), 5, 1, 6+1+6)
	costsAt(t, "a rune, and the cursor ahead of all of its row", full, with(full, 5, 1, "x", none), 0, 1, 6+1+1)
	costsAt(t, "a rune, and the cursor in the next row", full, with(full, 5, 1, "x", none), 0, 2, 6+1+2)
	costsAt(t, "a rune at the edge, and the cursor on it", full, with(full, 119, 1, "x", none), 119, 1, 8+1+8)
}

// No cell takes more than it may, even if each has a look of its own, and is far from the next one that differs.
func TestTurnIsFew(t *testing.T) {
	from := blank(api.MaxWide, api.MaxHigh)
	for _, every := range []int{1, 2, 3, 7} {
		to := blank(api.MaxWide, api.MaxHigh)
		for i := 0; i < len(to.Cells); i += every {
			to.Cells[i] = api.Cell{R: 0x10ff00 + rune(i%200), S: api.Style{Fore: 256 - i%50, Back: 200 + i%56, Bits: 127 - i%2*63}}
		}
		for _, c := range [][2]int{{-1, -1}, {119, 59}, {0, 0}} {
			b, e := Turn(from, to, c[0], c[1])
			a, f := All(to, c[0], c[1])
			if e != api.OK || f != api.OK {
				t.Fatal(e, f)
			}
			cells := (len(to.Cells) + every - 1) / every
			if len(b) > 60*cells+60 || len(a) > 60*cells+60 {
				t.Errorf("every %d: %d and %d bytes", every, len(b), len(a))
			}
		}
	}
	worst := with(blank(2, 1), 0, 0, "\U0010fff0", fullLook)
	b, _ := Turn(worst, with(worst, 1, 0, "\U0010fff0", api.Style{Fore: 255, Back: 255, Bits: 1}), 0, 0)
	isFew(t, "two cells", b, worst)
	one := blank(1, 1)
	b, _ = Turn(one, with(one, 0, 0, "\U0010fff0", fullLook), 0, 0)
	isFew(t, "a cell", b, one)
}

// A great page is shown, too, whose bytes are more than Feed takes at a time.
func TestTurnGreat(t *testing.T) {
	w, h := api.MaxWide, api.MaxHigh
	rows := make([]string, h)
	for y := range rows {
		rows[y] = strings.Repeat(string(rune('a'+y%26)), y) + "日本 and what follows " + strings.Repeat(fmt.Sprint(y), 20)
	}
	to := of(w, api.Style{}, rows...)
	for y := range h {
		to = with(to, y*2, y, "語x", api.Style{Fore: y + 1, Bits: y})
	}
	s := turned(t, showing(blank(w, h), 5, 5, false), to, w-1, h-1)
	s = turned(t, s, of(w, fullLook, append(slices.Clone(rows[1:]), "")...), -1, -1)
	drawnAnew(t, s, to, 0, h-1)
}
