package term

import (
	"fmt"
	"math"
	"reflect"
	"slices"
	"strconv"
	"strings"
	"testing"

	"trellis/api"
	"trellis/grid"
	"trellis/parse"
	"trellis/put"
	"trellis/screen"
	"trellis/text"
)

var (
	red   = api.Style{Fore: 4, Back: 2, Bits: api.Bold | api.Reverse}
	green = api.Style{Fore: 3, Back: 9, Bits: api.Under}
)

const (
	lowest   = math.MinInt
	most     = math.MaxInt
	allModes = 63
)

// rowOf: cells that say s, all in that look.
func rowOf(s string, look api.Style) []api.Cell {
	var row []api.Cell
	for _, r := range s {
		row = append(row, api.Cell{R: r, S: look})
		if text.Width(r) == 2 {
			row = append(row, api.Cell{S: look})
		}
	}
	return row
}

// of: a screen with these rows, which are green, and with something in all else but Gone.
func of(rows ...string) api.Screen {
	g := api.Grid{H: len(rows)}
	for _, row := range rows {
		g.Cells = append(g.Cells, rowOf(row, green)...)
	}
	g.W = len(g.Cells) / g.H
	s := api.Screen{
		G:      g,
		S:      red,
		Bottom: g.H - 1,
		Modes:  api.Wrap | api.Hidden,
		Tabs:   make([]bool, g.W),
		K:      api.Kept{X: g.W - 1, Y: g.H - 1, S: green, Modes: api.Origin},
		Last:   '語',
		Title:  "a title 日",
	}
	s.Tabs[g.W/2] = true
	return s
}

// base: a terminal with something in all there is; Main is shown.
func base() api.Term {
	t := api.Term{
		Main:    of("ab日", "日cd", "efgh", "ijkl"),
		Other:   of("wxyz", "本st", "uv語", "1234"),
		History: [][]api.Cell{rowOf("first", red), rowOf("第二", green)},
		Reply:   "\x1b[0n",
	}
	t.Main.X, t.Main.Y = 2, 1
	t.Other.X, t.Other.Y, t.Other.Title, t.Other.S, t.Other.Modes = 1, 2, "another", green, api.Wrap|api.Paste
	return t
}

// with: t, and some of it otherwise; its lists are its own.
func with(t api.Term, set func(*api.Term)) api.Term {
	t = own(t)
	set(&t)
	return t
}

// alt: t, with the other screen shown.
func alt(t api.Term) api.Term { return with(t, func(t *api.Term) { t.Alt = true }) }

// at: t, its cursor on Main there.
func at(t api.Term, x, y int) api.Term {
	return with(t, func(t *api.Term) { t.Main.X, t.Main.Y = x, y })
}

// reading: t, its reader there.
func reading(t api.Term, in api.State) api.Term {
	return with(t, func(t *api.Term) { t.In = in })
}

// own: a copy of t that shares nothing with it, with the lists that have nothing in them nil.
func own(t api.Term) api.Term {
	for _, s := range []*api.Screen{&t.Main, &t.Other} {
		s.G.Cells, s.Tabs, s.Gone = copied(s.G.Cells), copied(s.Tabs), ownRows(s.Gone)
	}
	t.History, t.In.Params = ownRows(t.History), copied(t.In.Params)
	return t
}

func copied[E any](l []E) []E { return append([]E(nil), l...) }

func ownRows(rows [][]api.Cell) [][]api.Cell {
	var out [][]api.Cell
	for _, row := range rows {
		out = append(out, copied(row))
	}
	return out
}

// equal: are two terminals alike, whether their empty lists are nil or not?
func equal(a, b api.Term) bool {
	return sameScreens(a.Main, b.Main) && sameScreens(a.Other, b.Other) && sameRows(a.History, b.History) && slices.Equal(a.In.Params, b.In.Params) && reflect.DeepEqual(bare(a), bare(b))
}

func sameScreens(a, b api.Screen) bool {
	return slices.Equal(a.G.Cells, b.G.Cells) && slices.Equal(a.Tabs, b.Tabs) && sameRows(a.Gone, b.Gone)
}

func sameRows(a, b [][]api.Cell) bool { return slices.EqualFunc(a, b, slices.Equal[[]api.Cell]) }

// bare: t without its lists.
func bare(t api.Term) api.Term {
	for _, s := range []*api.Screen{&t.Main, &t.Other} {
		s.G.Cells, s.Tabs, s.Gone = nil, nil, nil
	}
	t.History, t.In.Params = nil, nil
	return t
}

// linesOf rows, each a grid of its own.
func linesOf(rows [][]api.Cell) []string {
	var out []string
	for _, row := range rows {
		l, _ := grid.Lines(api.Grid{W: len(row), H: 1, Cells: row})
		out = append(out, l...)
	}
	return out
}

// sheetText: the lines of s, and where its cursor is.
func sheetText(s api.Screen) string {
	l, _ := grid.Lines(s.G)
	out := fmt.Sprintf("%s %d,%d", strings.Join(l, "|"), s.X, s.Y)
	if s.Late {
		out += " late"
	}
	return out
}

// told: the lines that are gone, and the screen that is shown.
func told(t api.Term) string {
	s := t.Main
	if t.Alt {
		s = t.Other
	}
	return strings.Join(linesOf(t.History), "/") + " > " + sheetText(s)
}

// expect: nothing but what is wanted comes of it, and that is right.
func expect(t *testing.T, got api.Term, e api.Errno, want api.Term, what string, about ...any) {
	t.Helper()
	if e != api.OK || !equal(got, want) {
		t.Fatalf("%s: %+v, %d, want %+v, 0", fmt.Sprintf(what, about...), got, e, want)
	}
	if e := Check(got); e != api.OK {
		t.Fatalf("%s: what is answered doesn't pass Check: %d", fmt.Sprintf(what, about...), e)
	}
}

// after: what comes of b, which is right.
func after(t *testing.T, x api.Term, b string) api.Term {
	t.Helper()
	got, e := Feed(x, b)
	if e != api.OK || Check(got) != api.OK {
		t.Fatalf("%q: %d, and Check %d", b, e, Check(got))
	}
	return got
}

// fresh: an empty terminal of that size.
func fresh(t *testing.T, w, h int) api.Term {
	t.Helper()
	x, e := New(w, h)
	if e != api.OK {
		t.Fatalf("New(%d, %d): %d", w, h, e)
	}
	return x
}

// terms: each that is worth trying bytes on.
func terms() []api.Term {
	scrolling := with(base(), func(t *api.Term) {
		t.Main.Top, t.Main.Bottom, t.Main.Modes = 1, 2, allModes
		t.Other.Top, t.Other.Bottom, t.Other.Modes = 2, 3, allModes
	})
	late := with(base(), func(t *api.Term) { t.Main.X, t.Main.Y, t.Main.Late = 3, 3, true })
	full := with(base(), func(t *api.Term) {
		t.History = slices.Repeat(t.History, api.MaxHistory/2)
		t.Reply = strings.Repeat("r", api.MaxText-9)
		t.Main.Y, t.Other.Y = 3, 3
	})
	small := api.Term{Main: of("a"), Other: of("b")}
	narrow := api.Term{Main: of("a", "b", "c"), Other: of("d", "e", "f"), Reply: "x"}
	return []api.Term{base(), alt(base()), scrolling, alt(scrolling), late, alt(late), full, alt(full), small, alt(small), narrow, at(narrow, 0, 2)}
}

// states: one at least of each kind in which a reader may be.
func states() []api.State {
	return []api.State{
		{}, {Left: "\xe6\x97"}, {At: api.InEscape}, {At: api.InMiddle, Middle: "#"},
		{At: api.InCommand}, {At: api.InCommand, Params: []int{5}}, {At: api.InCommand, Params: []int{3}}, {At: api.InCommand, Mark: '?', Params: []int{25, 1049}}, {At: api.InCommand, Mark: '?', Params: []int{104}}, {At: api.InCommand, Middle: " "},
		{At: api.InSystem, Text: "2;ti"}, {At: api.InSystem, Text: "0;title", Late: true}, {At: api.InSkip},
	}
}

// streams: bytes that make terminals do all there is, and end anywhere.
func streams() []string {
	return []string{
		"", "x", "n", "h", "l", "c", "J", "\\", "\a", "\x1b", "\x18", "\xa5", "9h", "9;7l", "日", "\xff\xe6\x97",
		"\x1b[5n\x1b[6n\x1b[c\x1b[0c\x1b[1c\x1b[?6n\x1b[>c\x1b[6 n\x1b[n\x1b[6;5n",
		"\x1b[?1049hab\r\n\n\n\n\ncd\x1b[6n\x1b]2;of it\a\x1b[?1049lef\x1b[6n",
		"\x1b[2;3r\x1b[?6;4h\x1b[?1049;25hx\x1b[6n\x1b[?25;1049h\n\n\x1b[?1049l\x1b[?6;1049ly\x1b[?1049$h\x1b[1049h",
		"a\r\nb\r\n日\r\nd\r\ne\x1b[3Jf\r\n\ng\x1b[2Jh\x1b[3;1Ji\n\x1b[;3J\x1b[?3Jj",
		"\x1b[?1049h\n\n\n\n\x1b[3Jx\x1b[?1049l\n\n\n\n",
		"\x1b[99b\x1b[2S\x1b[9999Sx\x1bc\n\n\x1b[4M\x1b[99;1H\n\x1b[;4rz",
		"\x1b[?1049h\x1b[?1049h\x1b[?1049l\x1b[?1049l\x1b[?1049h\x1b[12", "x\x1b]0;ti\x1b\\tle\x1b[?10", "\u0301\x1b[1;41m\U0001F600\xf0\x9f\x98",
	}
}

// longStream: more rows than History holds.
func longStream() string { return strings.Repeat("ab日\n", 60) }

// The model: the chapter's words, one event after the other.

func wanted(x api.Term, b string) api.Term {
	in, l, _ := parse.Feed(x.In, b)
	x = with(x, func(x *api.Term) { x.In = in })
	for _, e := range l {
		x = wantedOf(x, e)
	}
	return x
}

func wantedOf(x api.Term, e api.Event) api.Term {
	params := append(slices.Clone(e.Params), -1)
	switch now := visible(x); {
	case e.Kind == api.Command && e.Middle == "" && e.Mark == '?' && e.Final == 'h' && slices.Contains(e.Params, 1049):
		if !x.Alt {
			x.Other = wantedOther(x.Main)
		}
		x.Alt = true
		return x
	case e.Kind == api.Command && e.Middle == "" && e.Mark == '?' && e.Final == 'l' && slices.Contains(e.Params, 1049):
		if x.Alt {
			x.Main.Title = x.Other.Title
		}
		x.Alt = false
		return x
	case e.Kind == api.Command && e.Middle == "" && e.Mark == 0 && e.Final == 'n' && params[0] == 5:
		return replied(x, "\x1b[0n")
	case e.Kind == api.Command && e.Middle == "" && e.Mark == 0 && e.Final == 'n' && params[0] == 6:
		row := now.Y + 1
		if now.Modes&api.Origin != 0 {
			row = now.Y - now.Top + 1
		}
		return replied(x, "\x1b["+strconv.Itoa(row)+";"+strconv.Itoa(now.X+1)+"R")
	case e.Kind == api.Command && e.Middle == "" && e.Mark == 0 && e.Final == 'c' && params[0] <= 0:
		return replied(x, "\x1b[?6c")
	}
	if x.Alt {
		x.Other, _ = screen.Do(x.Other, e)
	} else {
		x.Main, _ = screen.Do(x.Main, e)
	}
	if e.Kind == api.Command && e.Middle == "" && e.Mark == 0 && e.Final == 'J' && params[0] == 3 {
		x.History = nil
	}
	return settled(x)
}

func visible(x api.Term) api.Screen {
	if x.Alt {
		return x.Other
	}
	return x.Main
}

func wantedOther(m api.Screen) api.Screen {
	s, _ := put.New(m.G.W, m.G.H)
	s.X, s.Y, s.S, s.Title, s.Modes = m.X, m.Y, m.S, m.Title, m.Modes
	if s.Modes&api.Origin != 0 {
		s.Modes -= api.Origin
	}
	return s
}

func replied(x api.Term, b string) api.Term {
	if len(x.Reply+b) <= api.MaxText {
		x.Reply += b
	}
	return x
}

// settled: what is gone of Main goes behind History.
func settled(x api.Term) api.Term {
	for _, row := range x.Main.Gone {
		x.History = append(slices.Clone(x.History), row)
		if len(x.History) > api.MaxHistory {
			x.History = x.History[1:]
		}
	}
	x.Main.Gone, x.Other.Gone = nil, nil
	return x
}

// hold Feed of b against the model.
func hold(t *testing.T, x api.Term, b string) {
	t.Helper()
	got, e := Feed(x, b)
	expect(t, got, e, wanted(x, b), "%q on %+v", b, x)
}

// P11.1

func TestNew(t *testing.T) {
	for _, size := range [][2]int{{1, 1}, {4, 2}, {2, 4}, {80, 24}, {api.MaxWide, 1}, {1, api.MaxHigh}, {api.MaxWide, api.MaxHigh}} {
		s, _ := put.New(size[0], size[1])
		got, e := New(size[0], size[1])
		expect(t, got, e, api.Term{Main: s, Other: s}, "%v", size)
	}
}

func TestNewOfNoSize(t *testing.T) {
	for _, n := range []int{0, -1, lowest, most, math.MinInt32, math.MaxInt32} {
		for _, size := range [][2]int{{n, 1}, {1, n}, {n, n}, {n, api.MaxHigh + 1}, {api.MaxWide + 1, n}} {
			noTerm(t, size[0], size[1])
		}
	}
	for _, size := range [][2]int{{api.MaxWide + 1, 1}, {1, api.MaxHigh + 1}, {api.MaxWide + 1, api.MaxHigh}, {api.MaxWide, api.MaxHigh + 1}} {
		noTerm(t, size[0], size[1])
	}
}

func noTerm(t *testing.T, w, h int) {
	t.Helper()
	if got, e := New(w, h); e != api.ErrSize || !reflect.DeepEqual(got, api.Term{}) {
		t.Errorf("New(%d, %d): %+v, %d", w, h, got, e)
	}
}

// P11.2: which screen is shown

// The other screen is a new one each time, and goes on where Main is.
func TestShowTheOther(t *testing.T) {
	from := with(base(), func(x *api.Term) {
		x.Main.X, x.Main.Late, x.Main.Top, x.Main.Bottom = 3, true, 1, 2
	})
	for modes := range allModes + 1 {
		x := with(from, func(x *api.Term) { x.Main.Modes, x.Main.Late = modes, modes&api.Wrap != 0 })
		want := with(x, func(x *api.Term) {
			x.Alt = true
			x.Other = api.Screen{
				G: api.Grid{W: 4, H: 4, Cells: rowOf(strings.Repeat(" ", 16), api.Style{})},
				X: 3, Y: 1, S: red, Bottom: 3, Modes: modes &^ api.Origin, Tabs: make([]bool, 4), K: api.Kept{Modes: api.Wrap}, Title: "a title 日",
			}
		})
		got, e := Feed(x, "\x1b[?1049h")
		expect(t, got, e, want, "modes %d", modes)
	}
}

// As soon as 1049 is among the numbers, all others count for nothing.
func TestShowAmongOthers(t *testing.T) {
	for _, l := range []string{"1049", "25;1049", "1049;25", "1;6;7;1049;2004;25", ";1049", "1049;", "1049;1049", "0;0;0;0;0;0;0;0;0;0;0;0;0;0;0;1049", "01049"} {
		got, e := Feed(base(), "\x1b[?"+l+"h")
		expect(t, got, e, with(base(), func(x *api.Term) { x.Alt, x.Other = true, wantedOther(x.Main) }), "%s h", l)
		got, e = Feed(alt(base()), "\x1b[?"+l+"l")
		expect(t, got, e, with(base(), func(x *api.Term) { x.Main.Title = "another" }), "%s l", l)
		got, e = Feed(alt(base()), "\x1b[?"+l+"h")
		expect(t, got, e, alt(base()), "%s h, while it is shown", l)
		got, e = Feed(base(), "\x1b[?"+l+"l")
		expect(t, got, e, base(), "%s l, while Main is shown", l)
	}
}

// What isn't told just so shows no other screen.
func TestShowNothing(t *testing.T) {
	for _, b := range []string{
		"[1049h", "[1049l", "[>1049h", "[<1049h", "[=1049h", "[>1049l", "[?1049 h", "[?1049$h", "[?1049!l", "[?1049  l", "[?1048h", "[?1050h", "[?1047l", "[?47h", "[?104;9h", "[?10490h", "[?9999h", "[?h", "[?l", "[?0h",
		"[?1049n", "[?1049c", "[?1049J", "[?1049H", "[?1049m", "[?1049r", "[?1049s", "[?1049g", "[?1049i", "[?1049k", "[?1049H", "[?1049L", "]1049h\a", "]?1049h\a", "[?1;2;3;4;5;6;7;8;9;10;11;12;13;14;15;16;1049h",
	} {
		for _, x := range []api.Term{base(), alt(base())} {
			got, e := Feed(x, "\x1b"+b)
			expect(t, got, e, x, "%q", b)
		}
	}
	got, e := Feed(base(), "\x1b[?1048;2004h")
	expect(t, got, e, with(base(), func(x *api.Term) { x.Main.Modes |= api.Paste }), "modes of the screen")
	got, e = Feed(base(), "1049h?")
	expect(t, got, e, wanted(base(), "1049h?"), "runes")
	if got.Alt {
		t.Error("runes show the other screen")
	}
}

func TestShowAndGoOn(t *testing.T) {
	x := after(t, fresh(t, 4, 2), "\x1b]2;one\a\x1b[1mab")
	for _, c := range []struct{ bytes, shown, main, title string }{
		{"\x1b[?1049h", "| 2,0", "ab| 2,0", "one"},
		{"\x1b[?1049hc", "  c| 3,0", "ab| 2,0", "one"},
		{"\x1b[?1049hc\x1b[?1049hd", "  cd| 3,0 late", "ab| 2,0", "one"},
		{"\x1b[?1049hc\x1b[?1049lde", "abde| 3,0 late", "abde| 3,0 late", "one"},
		{"\x1b[?1049hc\x1b[?1049ld\x1b[?1049he", "   e| 3,0 late", "abd| 3,0", "one"},
		{"\x1b[?1049h\x1b]2;two\a", "| 2,0", "ab| 2,0", "one"},
		{"\x1b[?1049h\x1b]2;two\a\x1b[?1049l", "ab| 2,0", "ab| 2,0", "two"},
		{"\x1b[?1049h\x1b]2;two\a\x1b[?1049l\x1b[?1049l", "ab| 2,0", "ab| 2,0", "two"},
		{"\x1b[?1049h\x1b]2;two\a\x1b[?1049l\x1b]2;three\a\x1b[?1049l", "ab| 2,0", "ab| 2,0", "three"},
		{"\x1b[?1049h\x1b]2;\x7f\a\x1b[?1049l", "ab| 2,0", "ab| 2,0", ""},
		{"\x1b[?1049h\x1bc\x1b[?1049l", "ab| 2,0", "ab| 2,0", ""},
		{"\x1b[?1049h\x1b[H\x1b[mx\x1b[?25l\x1b[?1049ly", "aby| 3,0", "aby| 3,0", "one"},
	} {
		got := after(t, x, c.bytes)
		if sheetText(visible(got)) != c.shown || sheetText(got.Main) != c.main || got.Main.Title != c.title || got.Main.S.Bits != api.Bold || got.Main.Modes != api.Wrap {
			t.Errorf("%q: %+v", c.bytes, got)
		}
	}
}

// P11.2: answers

// asked: of b comes want behind what was replied, and nothing else.
func asked(t *testing.T, x api.Term, b, want string) {
	t.Helper()
	got, e := Feed(x, b)
	expect(t, got, e, with(x, func(x *api.Term) { x.Reply += want }), "%q", b)
}

func TestAnswers(t *testing.T) {
	for _, c := range []struct{ bytes, main, other string }{
		{"[5n", "\x1b[0n", "\x1b[0n"}, {"[5;6n", "\x1b[0n", "\x1b[0n"}, {"[005n", "\x1b[0n", "\x1b[0n"},
		{"[6n", "\x1b[2;3R", "\x1b[3;2R"}, {"[6;5n", "\x1b[2;3R", "\x1b[3;2R"}, {"[6;n", "\x1b[2;3R", "\x1b[3;2R"},
		{"[c", "\x1b[?6c", "\x1b[?6c"}, {"[0c", "\x1b[?6c", "\x1b[?6c"}, {"[;c", "\x1b[?6c", "\x1b[?6c"}, {"[;1c", "\x1b[?6c", "\x1b[?6c"}, {"[0;1c", "\x1b[?6c", "\x1b[?6c"}, {"[00c", "\x1b[?6c", "\x1b[?6c"},
		{"[n", "", ""}, {"[0n", "", ""}, {"[1n", "", ""}, {"[4n", "", ""}, {"[7n", "", ""}, {"[;5n", "", ""}, {"[;6n", "", ""}, {"[55n", "", ""}, {"[56n", "", ""}, {"[0;5n", "", ""}, {"[9999n", "", ""},
		{"[1c", "", ""}, {"[1;0c", "", ""}, {"[6c", "", ""}, {"[10c", "", ""}, {"[9999c", "", ""},
		{"[?5n", "", ""}, {"[?6n", "", ""}, {"[>5n", "", ""}, {"[<6n", "", ""}, {"[=6n", "", ""}, {"[?c", "", ""}, {"[>c", "", ""}, {"[>0c", "", ""}, {"[=c", "", ""}, {"[<0c", "", ""},
		{"[5 n", "", ""}, {"[6 n", "", ""}, {"[6$n", "", ""}, {"[ c", "", ""}, {"[0!c", "", ""}, {"[?6 n", "", ""}, {"[5N", "", ""}, {"[6o", "", ""}, {"n", "", ""}, {"]6n\a", "", ""},
	} {
		asked(t, base(), "\x1b"+c.bytes, c.main)
		asked(t, alt(base()), "\x1b"+c.bytes, c.other)
	}
	asked(t, base(), "\x1b[c\x1b[6n\x1b[5n\x1b[6n", "\x1b[?6c\x1b[2;3R\x1b[0n\x1b[2;3R")
	if got := after(t, base(), "\x1bc"); got.Reply != base().Reply {
		t.Errorf("ESC c: %q", got.Reply)
	}
}

// Where the cursor is, from Top on if Origin is set. Above Top, where Restore may have left it, rows are told that are below 1.
func TestWhereTheCursorIs(t *testing.T) {
	for _, c := range []struct {
		x, y, top, modes int
		want             string
	}{
		{0, 0, 0, api.Wrap, "\x1b[1;1R"}, {3, 3, 0, api.Wrap, "\x1b[4;4R"}, {3, 3, 1, api.Wrap, "\x1b[4;4R"}, {1, 2, 1, allModes &^ api.Origin, "\x1b[3;2R"},
		{0, 0, 0, api.Origin, "\x1b[1;1R"}, {1, 1, 1, api.Origin, "\x1b[1;2R"}, {2, 3, 1, api.Origin, "\x1b[3;3R"}, {2, 3, 2, allModes, "\x1b[2;3R"},
		{2, 1, 2, api.Origin, "\x1b[0;3R"}, {2, 0, 2, api.Origin, "\x1b[-1;3R"},
	} {
		set := func(s *api.Screen) { s.X, s.Y, s.Top, s.Modes = c.x, c.y, c.top, c.modes }
		asked(t, with(base(), func(x *api.Term) { set(&x.Main) }), "\x1b[6n", c.want)
		asked(t, with(alt(base()), func(x *api.Term) { set(&x.Other) }), "\x1b[6n", c.want)
	}
	asked(t, with(base(), func(x *api.Term) { x.Main.X, x.Main.Late = 3, true }), "\x1b[6n", "\x1b[2;4R")
	far := fresh(t, api.MaxWide, api.MaxHigh)
	far.Main.X, far.Main.Y = api.MaxWide-1, api.MaxHigh-1
	asked(t, far, "\x1b[6n", "\x1b[60;120R")
}

// An answer goes in whole, or not at all; a shorter one may go in then.
func TestReplyWhenItIsFull(t *testing.T) {
	for _, c := range []struct {
		free        int
		bytes, want string
	}{
		{0, "\x1b[5n", ""}, {3, "\x1b[5n", ""}, {4, "\x1b[5n", "\x1b[0n"}, {5, "\x1b[5n", "\x1b[0n"}, {7, "\x1b[5n\x1b[5n", "\x1b[0n"}, {8, "\x1b[5n\x1b[5n", "\x1b[0n\x1b[0n"},
		{4, "\x1b[c", ""}, {5, "\x1b[c", "\x1b[?6c"}, {5, "\x1b[6n", ""}, {6, "\x1b[6n", "\x1b[2;3R"}, {5, "\x1b[6n\x1b[c", "\x1b[?6c"}, {5, "\x1b[6n\x1b[5n\x1b[c", "\x1b[0n"},
	} {
		x := with(base(), func(x *api.Term) { x.Reply = strings.Repeat("r", api.MaxText-c.free) })
		asked(t, x, c.bytes, c.want)
	}
	got := after(t, base(), strings.Repeat("\x1b[5n", api.MaxText/4))
	if len(got.Reply) != api.MaxText || got.Reply != strings.Repeat("\x1b[0n", api.MaxText/4) {
		t.Errorf("%d bytes", len(got.Reply))
	}
}

// P11.2: what left Main

func TestHistoryGoes(t *testing.T) {
	for _, b := range []string{"[3J", "[3;1J", "[3;J", "[3;3J", "[03J"} {
		for _, x := range []api.Term{base(), alt(base())} {
			got, e := Feed(x, "\x1b"+b)
			expect(t, got, e, with(x, func(x *api.Term) { x.History = nil }), "%q", b)
		}
	}
	for _, b := range []string{"[?3J", "[>3J", "[3 J", "[3$J", "[4J", "[33J", "[;3J", "[1;3J", "[2;3J", "[J", "[2J", "[1J", "[3K", "[3g", "[3n", "[3c", "[3j", "J", "c"} {
		for _, x := range []api.Term{base(), alt(base())} {
			if got := after(t, x, "\x1b"+b); !slices.Equal(linesOf(got.History), []string{"first", "第二"}) {
				t.Errorf("%q: %q", b, linesOf(got.History))
			}
		}
	}
}

func TestWhatLeavesMain(t *testing.T) {
	x := after(t, fresh(t, 4, 2), "a\r\n日\r\nc")
	for _, c := range []struct{ bytes, want string }{
		{"", "a > 日|c 1,1"},
		{"\n", "a/日 > c| 1,1"},
		{"\r\nd\r\n\r\ne", "a/日/c/d > |e 1,1"},
		{"defgh", "a/日 > cdef|gh 2,1"},
		{"\x1b[S", "a/日 > c| 1,1"}, {"\x1b[9S", "a/日/c > | 1,1"},
		{"\x1bD", "a/日 > c| 1,1"}, {"\x1bE", "a/日 > c| 0,1"}, {"\f\v", "a/日/c > | 1,1"},
		{"\x1b[5b", "a/日 > cccc|cc 2,1"},
		{"\x1b[H\x1bM", "a > |日 0,0"}, {"\x1b[H\x1b[M", "a > c| 0,0"}, {"\x1b[H\x1b[L", "a > |日 0,0"}, {"\x1b[2J", "a > | 1,1"}, {"\x1bc", "a > | 0,0"}, {"\x1b[T", "a > |日 1,1"},
		{"\n\x1b[3J", " > c| 1,1"}, {"\x1b[3J\n", "日 > c| 1,1"}, {"\n\x1b[3J\n", "c > | 1,1"},
		{"\x1b[?1049h\n\n\nx", "a > | x 2,1"}, {"\x1b[?1049h\n\n\nx\x1b[?1049l", "a > 日|c 1,1"}, {"\x1b[?1049h\n\x1b[9S\x1b[?1049l\n", "a/日 > c| 1,1"},
		{"\n\x1b[?1049h\n\x1b[3J\n\x1b[?1049l\n", "c > | 1,1"},
	} {
		if got := after(t, x, c.bytes); told(got) != c.want {
			t.Errorf("%q: %s, want %s", c.bytes, told(got), c.want)
		}
	}
}

// Only what leaves at the first row is kept.
func TestRegionsAndHistory(t *testing.T) {
	x := after(t, fresh(t, 2, 4), "a\r\nb\r\nc\r\nd")
	for _, c := range []struct{ bytes, want string }{
		{"\x1b[2;3r\x1b[3;1H\n\n", " > a|||d 0,2"}, {"\x1b[1;2r\x1b[2;1H\n\n", "a/b > ||c|d 0,1"}, {"\x1b[2;4r\x1b[9S", " > a||| 0,0"}, {"\x1b[1;3r\x1b[9S", "a/b/c > |||d 0,0"},
	} {
		if got := after(t, x, c.bytes); told(got) != c.want {
			t.Errorf("%q: %s, want %s", c.bytes, told(got), c.want)
		}
	}
}

// Rows are kept as they were, with their looks, and however wide they were.
func TestHistoryKeepsRows(t *testing.T) {
	x := at(base(), 0, 3)
	got, e := Feed(x, "\n\n\n")
	want := [][]api.Cell{rowOf("first", red), rowOf("第二", green), rowOf("ab日", green), rowOf("日cd", green), rowOf("efgh", green)}
	if e != api.OK || !reflect.DeepEqual(got.History, want) {
		t.Errorf("%+v, %d", got.History, e)
	}
}

// names: the numbers from first up to end, but not end itself, each with that ahead of it.
func names(ahead string, first, end int) []string {
	var out []string
	for i := first; i < end; i++ {
		out = append(out, ahead+strconv.Itoa(i))
	}
	return out
}

func TestHistoryIsFull(t *testing.T) {
	for _, c := range []struct{ said, first, end int }{
		{2, 0, 1}, {50, 0, 49}, {51, 0, 50}, {52, 1, 51}, {300, 249, 299},
	} {
		got := after(t, fresh(t, 4, 2), strings.Join(names("", 0, c.said), "\r\n")+"\r\n")
		if !slices.Equal(linesOf(got.History), names("", c.first, c.end)) {
			t.Errorf("of %d lines: %q", c.said, linesOf(got.History))
		}
	}
}

// More rows than History holds may leave by one event, and behind some that it has.
func TestHistoryIsFullAtOnce(t *testing.T) {
	high := after(t, fresh(t, 3, api.MaxHigh), strings.Join(names("", 0, api.MaxHigh), "\r\n"))
	for _, c := range []struct{ ahead, n, kept, first int }{
		{0, 50, 0, 0}, {0, 51, 0, 1}, {0, 60, 0, 10}, {2, 47, 2, 0}, {2, 48, 2, 0}, {2, 49, 1, 0}, {2, 50, 0, 0}, {50, 1, 49, 0}, {50, 49, 1, 0}, {50, 60, 0, 10},
	} {
		x := with(high, func(x *api.Term) {
			for _, name := range names("x", 0, c.ahead) {
				x.History = append(x.History, rowOf(name, red))
			}
		})
		want := slices.Concat(names("x", c.ahead-c.kept, c.ahead), names("", c.first, c.n))
		if got := after(t, x, "\x1b["+strconv.Itoa(c.n)+"S"); !slices.Equal(linesOf(got.History), want) {
			t.Errorf("%d behind %d: %q, want %q", c.n, c.ahead, linesOf(got.History), want)
		}
	}
	got := after(t, fresh(t, 1, 1), "x\x1b[9999b")
	if !slices.Equal(linesOf(got.History), slices.Repeat([]string{"x"}, api.MaxHistory)) || sheetText(got.Main) != "x 0,0 late" {
		t.Errorf("%q, %s", linesOf(got.History), sheetText(got.Main))
	}
}

// P11.2: the reader

func TestFeedFromAState(t *testing.T) {
	x := after(t, fresh(t, 4, 2), "ab")
	for _, c := range []struct {
		in    api.State
		bytes string
		want  string
		reply string
		then  api.State
	}{
		{api.State{}, "", " > ab| 2,0", "", api.State{}},
		{api.State{}, "\xe6\x97", " > ab| 2,0", "", api.State{Left: "\xe6\x97"}},
		{api.State{Left: "\xe6\x97"}, "\xa5", " > ab日| 3,0 late", "", api.State{}},
		{api.State{Left: "\xe6\x97"}, "", " > ab| 2,0", "", api.State{Left: "\xe6\x97"}},
		{api.State{}, "c\x1b[6", " > abc| 3,0", "", api.State{At: api.InCommand, Params: []int{6}}},
		{api.State{At: api.InCommand, Params: []int{6}}, "n", " > ab| 2,0", "\x1b[1;3R", api.State{}},
		{api.State{At: api.InCommand, Params: []int{6}}, "\rn", " > ab| 0,0", "\x1b[1;1R", api.State{}},
		{api.State{At: api.InCommand}, "c", " > ab| 2,0", "\x1b[?6c", api.State{}},
		{api.State{At: api.InEscape}, "c", " > | 0,0", "", api.State{}},
		{api.State{At: api.InCommand, Mark: '?', Params: []int{1, 104}}, "9h", " > | 2,0", "", api.State{}},
		{api.State{At: api.InCommand, Mark: '?', Params: []int{1049}}, ";", " > ab| 2,0", "", api.State{At: api.InCommand, Mark: '?', Params: []int{1049, -1}}},
		{api.State{At: api.InSystem, Text: "2;ti"}, "t", " > ab| 2,0", "", api.State{At: api.InSystem, Text: "2;tit"}},
		{api.State{At: api.InSystem, Text: "2;ti"}, "\x1b", " > ab| 2,0", "", api.State{At: api.InSystem, Text: "2;ti", Late: true}},
		{api.State{At: api.InSkip}, "1n\x1b[5n", " > ab| 2,0", "\x1b[0n", api.State{}},
	} {
		got := after(t, reading(x, c.in), c.bytes)
		if told(got) != c.want || got.Reply != c.reply || !equal(api.Term{In: got.In}, api.Term{In: c.then}) {
			t.Errorf("%q from %+v: %s, %q, %+v", c.bytes, c.in, told(got), got.Reply, got.In)
		}
	}
}

func TestFeed(t *testing.T) {
	for _, x := range terms() {
		for _, in := range states() {
			for _, b := range append(streams(), longStream()) {
				hold(t, reading(x, in), b)
			}
		}
	}
}

// repeated: s over and over, just so many bytes of it.
func repeated(s string, size int) string { return strings.Repeat(s, size/len(s)+1)[:size] }

func TestFeedOfTheGreatestLength(t *testing.T) {
	for _, b := range []string{"x", "\xff", "\xe6", "日", "日a\n", "\U0001F600", "\u0301", "\n", "\x1b[5n", "\x1b[?1049h\n\x1b[?1049l", strings.Join(streams(), "")} {
		for _, x := range []api.Term{base(), alt(base()), at(base(), 3, 3)} {
			hold(t, x, repeated(b, api.MaxText))
			if got, e := Feed(x, repeated(b, api.MaxText+1)); e != api.ErrMany || !reflect.DeepEqual(got, api.Term{}) {
				t.Errorf("%q, a byte too many: %+v, %d", b, got, e)
			}
		}
	}
	got := after(t, fresh(t, 100, 60), repeated("\xff", api.MaxText))
	if sheetText(got.Main) != strings.Repeat(strings.Repeat("\uFFFD", 100)+"|", 40)+strings.Repeat("|", 19)+" 99,39 late" {
		t.Errorf("wrong bytes: %s", sheetText(got.Main))
	}
}

func TestFeedOfTheGreatestScreen(t *testing.T) {
	x := fresh(t, api.MaxWide, api.MaxHigh)
	hold(t, x, "\x1b[60;119H日x\x1b[6n\x1b[30Sy\x1b[?1049h\x1b[99b\x1b[99S\x1b[?1049l\x1b[60S\x1b[9999bz")
}

// P11.3: Take

func TestTake(t *testing.T) {
	for _, x := range terms() {
		for _, in := range states() {
			for _, reply := range []string{"", "r", "\x1b[0n\x1b[2;3R", strings.Repeat("r", api.MaxText), "\x00\xff日"} {
				from := with(reading(x, in), func(x *api.Term) { x.Reply = reply })
				got, taken, e := Take(from)
				expect(t, got, e, with(from, func(x *api.Term) { x.Reply = "" }), "Take of %q", reply)
				if taken != reply {
					t.Errorf("%q is taken, of %q", taken, reply)
				}
			}
		}
	}
	x, first, _ := Take(after(t, fresh(t, 4, 2), "\x1b[5n"))
	x, second, _ := Take(x)
	_, third, _ := Take(after(t, x, "\x1b[c"))
	if first != "\x1b[0n" || second != "" || third != "\x1b[?6c" {
		t.Errorf("%q, %q, %q", first, second, third)
	}
}
