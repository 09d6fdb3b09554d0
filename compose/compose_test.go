package compose

import (
	"fmt"
	"math"
	"reflect"
	"slices"
	"strings"
	"testing"

	"trellis/api"
	"trellis/put"
	"trellis/split"
)

// of: the split that a text tells.
func of(text string) api.Split {
	x, at, e := split.Parse(text)
	if e != api.OK {
		panic(fmt.Sprintf("%q at %d: %d", text, at, e))
	}
	return x
}

// runesOf g: all of them, its rows with a / between; . is the right half of a wide one.
func runesOf(g api.Grid) string {
	return told(g, func(c api.Cell) string {
		if c.R == 0 {
			return "."
		}
		return string(c.R)
	})
}

// looksOf g: each cell's style by a letter of its own, and a blank for none.
func looksOf(g api.Grid) string {
	return told(g, func(c api.Cell) string {
		switch c.S {
		case api.Style{}:
			return " "
		case look:
			return "o"
		case lit:
			return "L"
		case api.Style{Fore: 3}:
			return "3"
		case api.Style{Bits: api.Reverse}:
			return "R"
		}
		return "?"
	})
}

func told(g api.Grid, how func(c api.Cell) string) string {
	var s strings.Builder
	for i, c := range g.Cells {
		if i > 0 && i%g.W == 0 {
			s.WriteByte('/')
		}
		s.WriteString(how(c))
	}
	return s.String()
}

// Two looks of borders.
var (
	look = api.Style{Fore: 7, Bits: api.Faint}
	lit  = api.Style{Fore: 200, Back: 5, Bits: api.Bold}
)

// page: a screen of that size on which the runes stand, row by row, and the cursor behind them.
func page(w, h int, runes string) api.Screen {
	s, e := put.New(w, h)
	if e == api.OK {
		s, e = put.Text(s, runes)
	}
	if e != api.OK {
		panic(fmt.Sprint(w, h, runes, e))
	}
	return s
}

// P17.1

func TestBorders(t *testing.T) {
	const want = " │││─┘┐┤─└┌├─┴┬┼"
	if got := Borders(); string(got[:]) != want {
		t.Errorf("%q, want %q", string(got[:]), want)
	}
	for _, c := range []struct {
		ways int
		want rune
	}{{0, ' '}, {1, '│'}, {2, '│'}, {1 + 2, '│'}, {4, '─'}, {8, '─'}, {4 + 8, '─'}, {1 + 4, '┘'}, {2 + 4, '┐'}, {1 + 8, '└'}, {2 + 8, '┌'}, {1 + 2 + 4, '┤'}, {1 + 2 + 8, '├'}, {1 + 4 + 8, '┴'}, {2 + 4 + 8, '┬'}, {1 + 2 + 4 + 8, '┼'}} {
		if got := Borders()[c.ways]; got != c.want {
			t.Errorf("%d: %q, want %q", c.ways, got, c.want)
		}
	}
}

func TestFrame(t *testing.T) {
	for _, c := range []struct {
		split        string
		w, h, active int
		runes, looks string
	}{
		{"1", 1, 1, 1, " ", " "},
		{"7*9", 3, 2, 7, "   /   ", "   /   "},
		// a border that goes on no way
		{"{1,2}", 3, 1, 1, "   ", " L "},
		{"{1,2}", 4, 1, 2, "    ", " L  "},
		{"[1,2]", 1, 3, 2, " / / ", " /L/ "},
		{"{1,2,3}", 5, 1, 1, "     ", " L o "},
		{"{1,2,3}", 5, 1, 2, "     ", " L L "},
		{"[1,2,3]", 1, 5, 3, " / / / / ", " /o/ /L/ "},
		// at its ends it goes on one way alone
		{"{1,2}", 3, 2, 1, " │ / │ ", " L / L "},
		{"{1,2}", 5, 3, 2, "  │  /  │  /  │  ", "  L  /  L  /  L  "},
		{"[1,2]", 2, 3, 1, "  /──/  ", "  /LL/  "},
		{"[1,2]", 3, 4, 2, "   /───/   /   ", "   /LLL/   /   "},
		{"{1,2,3}", 7, 2, 3, " │  │  / │  │  ", " o  L  / o  L  "},
		// where borders meet
		{"{1,[2,3]}", 5, 3, 1, "  │  /  ├──/  │  ", "  L  /  Loo/  L  "},
		{"{1,[2,3]}", 5, 3, 2, "  │  /  ├──/  │  ", "  L  /  LLL/  o  "},
		{"{1,[2,3]}", 5, 3, 3, "  │  /  ├──/  │  ", "  o  /  LLL/  L  "},
		{"{[1,2],3}", 5, 3, 1, "  │  /──┤  /  │  ", "  L  /LLL  /  o  "},
		{"{[1,2],3}", 5, 3, 2, "  │  /──┤  /  │  ", "  o  /LLL  /  L  "},
		{"{[1,2],3}", 5, 3, 3, "  │  /──┤  /  │  ", "  L  /ooL  /  L  "},
		{"[1,{2,3}]", 3, 3, 1, "   /─┬─/ │ ", "   /LLL/ o "},
		{"[1,{2,3}]", 3, 3, 2, "   /─┬─/ │ ", "   /LLo/ L "},
		{"[1,{2,3}]", 3, 3, 3, "   /─┬─/ │ ", "   /oLL/ L "},
		{"[{1,2},3]", 3, 3, 1, " │ /─┴─/   ", " L /LLo/   "},
		{"[{1,2},3]", 3, 3, 2, " │ /─┴─/   ", " L /oLL/   "},
		{"[{1,2},3]", 3, 3, 3, " │ /─┴─/   ", " o /LLL/   "},
		{"{[1,2],[3,4]}", 3, 3, 1, " │ /─┼─/ │ ", " L /LLo/ o "},
		{"{[1,2],[3,4]}", 3, 3, 2, " │ /─┼─/ │ ", " o /LLo/ L "},
		{"{[1,2],[3,4]}", 3, 3, 3, " │ /─┼─/ │ ", " L /oLL/ o "},
		{"[{1,2},{3,4}]", 3, 3, 4, " │ /─┼─/ │ ", " o /oLL/ L "},
		{"{[1,2*3],[3*3,4]}", 5, 7, 1, "  │  /  │  /──┤  /  │  /  ├──/  │  /  │  ", "  L  /  L  /LLL  /  o  /  ooo/  o  /  o  "},
		{"{[1,2*3],[3*3,4]}", 5, 7, 3, "  │  /  │  /──┤  /  │  /  ├──/  │  /  │  ", "  L  /  L  /ooL  /  L  /  LLL/  o  /  o  "},
		{"{1,[2,{3,4},5],6}", 9, 6, 4, " │    │  / ├─┬──┤  / │ │  │  / ├─┴──┤  / │    │  / │    │  ", " o    o  / ooLLLL  / o L  L  / ooLLLL  / o    o  / o    o  "},
		{"[1,{2,[3,4],5},6]", 6, 7, 2, "      /─┬─┬──/ │ │  / ├─┤  / │ │  /─┴─┴──/      ", "      /LLoooo/ L o  / Loo  / L o  /LLoooo/      "},
	} {
		g, e := Frame(of(c.split), c.w, c.h, c.active, look, lit)
		if runesOf(g) != c.runes || looksOf(g) != c.looks || e != api.OK || g.W != c.w || g.H != c.h {
			t.Errorf("Frame(%s, %d, %d, %d): %d\n%s\n%s; want\n%s\n%s", c.split, c.w, c.h, c.active, e, runesOf(g), looksOf(g), c.runes, c.looks)
		}
	}
}

// Each look may be none, or the same as the other, or the greatest.
func TestFrameLooks(t *testing.T) {
	styles := []api.Style{{}, {Fore: 3}, {Fore: 256, Back: 256, Bits: 127}, {Back: 1}, {Bits: api.Reverse}}
	for _, a := range styles {
		for _, b := range styles {
			g, e := Frame(of("{1,2,3}"), 5, 1, 1, a, b)
			want := []api.Cell{{R: ' '}, {R: ' ', S: b}, {R: ' '}, {R: ' ', S: a}, {R: ' '}}
			if e != api.OK || !slices.Equal(g.Cells, want) {
				t.Errorf("look %v, lit %v: %v, %d", a, b, g.Cells, e)
			}
		}
	}
}

// P17.2

// three panes, not in order, and their screens: the second one's smaller than most parts, the others' greater.
func three() ([]int, []api.Screen) {
	return []int{3, 1, 2}, []api.Screen{page(9, 9, "three"), page(9, 9, "abcdefghijkl"), page(1, 1, "2")}
}

func TestView(t *testing.T) {
	panes, screens := three()
	for _, c := range []struct {
		split        string
		zoom         bool
		active, w, h int
		state        string
		runes, looks string
	}{
		{"1", false, 1, 1, 2, "", "a/ ", " /R"},
		{"1", false, 1, 3, 2, "state", "abc/sta", "   /RRR"},
		{"1", false, 1, 3, 3, "s", "abc/jkl/s  ", "   /   /RRR"},
		{"2*7", false, 2, 3, 4, "st", "2  /   /   /st ", "   /   /   /RRR"},
		{"{1,[2,3]}", false, 1, 5, 4, "st", "ab│2 /jk├──/  │th/st   ", "  3  /  3  /  3  /RRRRR"},
		{"{1,[2,3]}", false, 2, 5, 4, "st", "ab│2 /jk├──/  │th/st   ", "  3  /  333/     /RRRRR"},
		{"{1,[2,3]}", false, 3, 7, 6, "[0] 1:sh", "abc│2  /jkl│   /   ├───/   │thr/   │   /[0] 1:s", "       /       /   3333/   3   /   3   /RRRRRRR"},
		{"{3,2}", false, 2, 3, 2, "", "t 2/   ", " 3 /RRR"},
		{"[3,2]", false, 3, 1, 4, "", "t/ /2/ ", " /3/ /R"},
		// zoomed: nothing is seen of the others
		{"{1,[2,3]}", true, 1, 5, 3, "z", "abcde/jkl  /z    ", "     /     /RRRRR"},
		{"{1,[2,3]*9}*9", true, 3, 5, 3, "z", "three/     /z    ", "     /     /RRRRR"},
		{"[1,2,3]", true, 2, 1, 2, "z", "2/z", " /R"},
		{"1", true, 1, 2, 2, "z", "ab/z ", "  /RR"},
	} {
		g, _, _, e := View(of(c.split), c.zoom, c.active, panes, screens, c.w, c.h, c.state)
		if runesOf(g) != c.runes || looksOf(g) != c.looks || e != api.OK || g.W != c.w || g.H != c.h {
			t.Errorf("View(%s, %t, %d, %d, %d): %d\n%s\n%s; want\n%s\n%s", c.split, c.zoom, c.active, c.w, c.h, e, runesOf(g), looksOf(g), c.runes, c.looks)
		}
	}
}

// Where a wide rune is cut by the end of its part, a blank stands, in its look; the border stays.
func TestViewWide(t *testing.T) {
	s := page(4, 2, "a日本")
	s.G.Cells[1].S, s.G.Cells[2].S = lit, lit
	for _, c := range []struct {
		w            int
		runes, looks string
	}{
		{3, "a│a/ │ /   ", " 3 / 3 /RRR"},
		{4, "a│a / │本./    ", " 3 L/ 3  /RRRR"},
		{5, "a │a /本.│本./     ", " L3 L/  3  /RRRRR"},
		{6, "a │a日./本.│本. /      ", " L3 LL/  3   /RRRRRR"},
		{7, "a日.│a日./本. │本. /       ", " LL3 LL/   3   /RRRRRRR"},
	} {
		g, _, _, e := View(of("{1,2}"), false, 1, []int{2, 1}, []api.Screen{s, s}, c.w, 3, "")
		if runesOf(g) != c.runes || looksOf(g) != c.looks || e != api.OK {
			t.Errorf("%d: %d\n%s\n%s; want\n%s\n%s", c.w, e, runesOf(g), looksOf(g), c.runes, c.looks)
		}
	}
}

func TestViewState(t *testing.T) {
	for _, c := range []struct {
		w           int
		state, want string
	}{
		{1, "", " "}, {1, "a", "a"}, {1, "ab", "a"}, {1, "日", " "}, {2, "日", "日."}, {2, "日本", "日."}, {3, "日本", "日. "}, {3, "日本x", "日. "}, {3, "a日x", "a日."}, {4, "a日x", "a日.x"}, {5, "日本x", "日.本.x"}, {5, "日本xy", "日.本.x"},
		{4, "a b", "a b "}, {4, "  a", "  a "}, {4, "    a", "    "},
		// what takes no cell
		{4, "\x00a\x1bb\n\x7fc", "abc "}, {2, "a\u0301\u0301\u0301b", "ab"}, {3, "\u200b\ufeff日\u202e", "日. "}, {2, "日\u0301本", "日."}, {4, "\x1b[1m", "[1m "}, {3, "\u2028\u2029", "   "},
		// no right UTF-8
		{3, "\xff", "\ufffd  "}, {5, "a\xe6\x97b", "a\ufffd\ufffdb "}, {4, "\xed\xa0\x80", "\ufffd\ufffd\ufffd "},
		// however long it is
		{3, strings.Repeat("x", 1<<20), "xxx"}, {3, strings.Repeat("\n", 1<<20) + "abcd", "abc"}, {api.MaxWide, strings.Repeat("日", 61), strings.Repeat("日.", 60)}, {api.MaxWide, "a" + strings.Repeat("日", 60), "a" + strings.Repeat("日.", 59) + " "},
	} {
		for _, h := range []int{2, 5, api.MaxHigh} {
			g, _, _, e := View(of("1"), false, 1, []int{1}, []api.Screen{page(1, 1, "x")}, c.w, h, c.state)
			if e != api.OK {
				t.Fatalf("%.40q in %d times %d: %d", c.state, c.w, h, e)
			}
			last := api.Grid{W: c.w, H: 1, Cells: g.Cells[c.w*(h-1):]}
			if runesOf(last) != c.want || looksOf(last) != strings.Repeat("R", c.w) || runesOf(g)[:1] != "x" {
				t.Errorf("%.40q in %d times %d: %q, %s; want %q", c.state, c.w, h, runesOf(last), looksOf(last), c.want)
			}
		}
	}
}

// The greatest views that there may be, and the smallest.
func TestViewGreat(t *testing.T) {
	s := page(api.MaxWide, api.MaxHigh, strings.Repeat("x", api.MaxText))
	for _, size := range [][2]int{{1, 2}, {1, api.MaxHigh}, {api.MaxWide, 2}, {api.MaxWide, api.MaxHigh}} {
		g, _, _, e := View(of("1"), false, 1, []int{1}, []api.Screen{s}, size[0], size[1], strings.Repeat("y", api.MaxWide))
		above := size[0] * (size[1] - 1)
		if e != api.OK || g.W != size[0] || g.H != size[1] || len(g.Cells) != size[0]*size[1] || g.Cells[above-1].R != s.G.Cells[(size[1]-2)*api.MaxWide+size[0]-1].R || g.Cells[above].R != 'y' {
			t.Errorf("%v: %d, %d times %d", size, e, g.W, g.H)
		}
	}
	var twelve []int
	for i := range api.MaxPanes {
		twelve = append(twelve, i+1)
	}
	for text, size := range map[string][2]int{"{1,2,3,4,5,6,7,8,9,10,11,12}": {23, 2}, "[1,2,3,4,5,6,7,8,9,10,11,12]": {1, 24}} {
		g, _, _, e := View(of(text), false, 12, twelve, slices.Repeat([]api.Screen{s}, api.MaxPanes), size[0], size[1], "")
		want := strings.Repeat("x ", 12)[:23]
		if got := strings.ReplaceAll(runesOf(g), "/", "")[:23]; e != api.OK || got != want {
			t.Errorf("%s: %d, %q", text, e, got)
		}
	}
}

func TestCursor(t *testing.T) {
	at := func(x, y, modes int) api.Screen {
		s := page(5, 4, "")
		s.X, s.Y, s.Modes = x, y, modes
		return s
	}
	for _, c := range []struct {
		split        string
		zoom         bool
		active       int
		s            api.Screen // of the one that is active; w is 7, h is 6
		wantX, wantY int
	}{
		{"1", false, 1, at(0, 0, 0), 0, 0}, {"1", false, 1, at(4, 3, api.Wrap), 4, 3},
		{"{1,2}", false, 1, at(0, 0, 0), 0, 0}, {"{1,2}", false, 1, at(2, 3, 0), 2, 3}, {"{1,2}", false, 1, at(3, 3, 0), -1, -1}, {"{1,2}", false, 1, at(4, 0, 0), -1, -1},
		{"{1,2}", false, 2, at(0, 0, 0), 4, 0}, {"{1,2}", false, 2, at(2, 3, 0), 6, 3}, {"{1,2}", false, 2, at(3, 0, 0), -1, -1},
		{"[1,2]", false, 1, at(4, 1, 0), 4, 1}, {"[1,2]", false, 1, at(4, 2, 0), -1, -1}, {"[1,2]", false, 1, at(0, 3, 0), -1, -1},
		{"[1,2]", false, 2, at(0, 0, 0), 0, 3}, {"[1,2]", false, 2, at(4, 1, 0), 4, 4}, {"[1,2]", false, 2, at(1, 2, 0), -1, -1},
		{"{1,[2,3]}", false, 3, at(2, 1, 0), 6, 4}, {"{1,[2,3]}", false, 3, at(1, 0, 0), 5, 3}, {"{1,[2,3]}", false, 2, at(2, 1, 0), 6, 1}, {"{1,[2,3]}", false, 2, at(2, 2, 0), -1, -1},
		// zoomed
		{"{1,[2,3]}", true, 3, at(4, 3, 0), 4, 3}, {"{1,2}", true, 2, at(3, 0, 0), 3, 0}, {"{1,2}", true, 2, at(3, 0, api.Hidden), -1, -1},
		// hidden, and other modes
		{"{1,2}", false, 2, at(0, 0, api.Hidden), -1, -1}, {"{1,2}", false, 2, at(0, 0, 63), -1, -1}, {"{1,2}", false, 2, at(0, 0, 63-api.Hidden), 4, 0}, {"{1,2}", false, 2, at(0, 0, api.Insert), 4, 0}, {"{1,2}", false, 2, at(0, 0, api.Origin), 4, 0}, {"{1,2}", false, 2, at(0, 0, api.Keypad), 4, 0}, {"{1,2}", false, 2, at(0, 0, api.Paste), 4, 0}, {"{1,2}", false, 2, at(3, 5, api.Hidden), -1, -1},
		// screens that aren't right: only the part counts
		{"1", false, 1, at(5, 4, 0), 5, 4}, {"1", false, 1, at(6, 0, 0), 6, 0}, {"1", false, 1, at(7, 0, 0), -1, -1}, {"1", false, 1, at(0, 5, 0), -1, -1}, {"1", false, 1, at(-1, 0, 0), -1, -1}, {"1", false, 1, at(0, -1, 0), -1, -1}, {"{1,2}", false, 2, at(-1, 0, 0), -1, -1}, {"[1,2]", false, 2, at(0, -1, 0), -1, -1},
		{"{1,2}", false, 2, at(math.MaxInt, 0, 0), -1, -1}, {"{1,2}", false, 2, at(math.MinInt, 0, 0), -1, -1}, {"[1,2]", false, 2, at(0, math.MaxInt, 0), -1, -1}, {"[1,2]", false, 2, at(0, math.MinInt, 0), -1, -1}, {"{1,2}", false, 2, at(0, 0, math.MaxInt), -1, -1}, {"{1,2}", false, 2, at(0, 0, math.MinInt), 4, 0}, {"{1,2}", false, 2, at(0, 0, 64), 4, 0},
	} {
		other := at(0, 0, 0)
		panes, screens := []int{1, 2, 3}, []api.Screen{other, other, other}
		screens[c.active-1] = c.s
		g, x, y, e := View(of(c.split), c.zoom, c.active, panes, screens, 7, 6, "state")
		if x != c.wantX || y != c.wantY || e != api.OK || g.W != 7 {
			t.Errorf("View(%s, %t, %d), the cursor at %d, %d, Modes %d: %d, %d, %d; want %d, %d", c.split, c.zoom, c.active, c.s.X, c.s.Y, c.s.Modes, x, y, e, c.wantX, c.wantY)
		}
	}
}

// Of panes that are told several times the first counts; those that aren't seen don't count.
func TestViewPanes(t *testing.T) {
	a, b, wrong := page(2, 1, "a"), page(2, 1, "bb"), api.Screen{}
	for _, c := range []struct {
		split        string
		zoom         bool
		panes        []int
		screens      []api.Screen
		runes        string
		wantX, wantY int
	}{
		{"1", false, []int{1, 1}, []api.Screen{a, b}, "a  /   ", 1, 0},
		{"1", false, []int{1, 1}, []api.Screen{b, a}, "bb /   ", 1, 0},
		{"1", false, []int{1, 1, 1}, []api.Screen{a, wrong, wrong}, "a  /   ", 1, 0},
		{"1", false, []int{0, -1, 2, 1, 2}, []api.Screen{wrong, wrong, wrong, a, b}, "a  /   ", 1, 0},
		{"{2,1}", false, []int{1, 2, 1, 2}, []api.Screen{a, b, wrong, a}, "b a/   ", -1, -1},
		{"{2,1}", true, []int{1, 2}, []api.Screen{a, wrong}, "a  /   ", 1, 0},
		{"{2,1}", true, []int{1}, []api.Screen{a}, "a  /   ", 1, 0},
		// zoomed, it needn't be one of the window's
		{"{2,3}", true, []int{1}, []api.Screen{a}, "a  /   ", 1, 0},
	} {
		g, x, y, e := View(of(c.split), c.zoom, 1, c.panes, c.screens, 3, 2, "")
		if runesOf(g) != c.runes || x != c.wantX || y != c.wantY || e != api.OK {
			t.Errorf("View(%s, %t) of %v: %s, %d, %d, %d; want %s, %d, %d", c.split, c.zoom, c.panes, runesOf(g), x, y, e, c.runes, c.wantX, c.wantY)
		}
	}
}

// Of a screen only its grid must be right.
func TestViewOddScreens(t *testing.T) {
	s := page(3, 1, "abc")
	want, _, _, _ := View(of("{1,2}"), false, 2, []int{1, 2}, []api.Screen{s, s}, 7, 2, "")
	odd := api.Screen{G: s.G, X: 99, Y: -99, Late: true, S: api.Style{Fore: -1}, Top: 7, Bottom: -7, Modes: -1, K: api.Kept{X: -1, Y: 99, Modes: 99}, Last: -1, Title: strings.Repeat("\n", 99), Gone: make([][]api.Cell, 99)}
	g, x, y, e := View(of("{1,2}"), false, 2, []int{1, 2}, []api.Screen{odd, odd}, 7, 2, "")
	if !reflect.DeepEqual(g, want) || x != -1 || y != -1 || e != api.OK {
		t.Errorf("%s, %d, %d, %d", runesOf(g), x, y, e)
	}
}
