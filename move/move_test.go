package move

import (
	"math"
	"reflect"
	"slices"
	"strings"
	"testing"

	"trellis/api"
	"trellis/put"
)

var (
	red   = api.Style{Back: 2, Bits: api.Bold}
	green = api.Style{Fore: 3}
	wrong = api.Style{Fore: api.MaxColour + 1}
)

// blank: a screen of a size with something in all that moves don't speak of, without any call of this package.
func blank(w, h int) api.Screen {
	s := api.Screen{
		G:      api.Grid{W: w, H: h, Cells: slices.Repeat([]api.Cell{{R: '.', S: green}}, w*h)},
		S:      red,
		Bottom: h - 1,
		Modes:  api.Wrap | api.Insert | api.Hidden,
		Tabs:   make([]bool, w),
		K:      api.Kept{X: w - 1, Y: h - 1, S: green, Modes: api.Origin},
		Last:   '語',
		Title:  "a title 日",
		Gone:   [][]api.Cell{{{R: 'x', S: red}}, {{R: '日'}, {}}},
	}
	if w > 2 {
		s.G.Cells[1], s.G.Cells[2] = api.Cell{R: '本'}, api.Cell{}
	}
	return s
}

// with: s, and some of it otherwise; its lists are its own.
func with(s api.Screen, set func(*api.Screen)) api.Screen {
	s = copyOf(s)
	set(&s)
	return s
}

func at(s api.Screen, x, y int) api.Screen {
	return with(s, func(s *api.Screen) { s.X, s.Y = x, y })
}

func region(s api.Screen, top, bottom int) api.Screen {
	return with(s, func(s *api.Screen) { s.Top, s.Bottom = top, bottom })
}

func origin(s api.Screen) api.Screen {
	return with(s, func(s *api.Screen) { s.Modes |= api.Origin })
}

// late: s, its last column just written.
func late(s api.Screen) api.Screen {
	return with(s, func(s *api.Screen) { s.X, s.Late = s.G.W-1, true })
}

func tabs(s api.Screen, columns ...int) api.Screen {
	return with(s, func(s *api.Screen) {
		clear(s.Tabs)
		for _, x := range columns {
			s.Tabs[x] = true
		}
	})
}

// tabsOf s: the columns that have one.
func tabsOf(s api.Screen) []int {
	var columns []int
	for x, is := range s.Tabs {
		if is {
			columns = append(columns, x)
		}
	}
	return columns
}

// copyOf s, which shares nothing with it, with the lists that have nothing in them nil.
func copyOf(s api.Screen) api.Screen {
	s.G.Cells = append([]api.Cell(nil), s.G.Cells...)
	s.Tabs = append([]bool(nil), s.Tabs...)
	gone := s.Gone
	s.Gone = nil
	for _, row := range gone {
		s.Gone = append(s.Gone, append([]api.Cell(nil), row...))
	}
	return s
}

func equal(a, b api.Screen) bool { return reflect.DeepEqual(copyOf(a), copyOf(b)) }

type call struct {
	name string
	do   func(api.Screen) (api.Screen, api.Errno)
}

// counting: those that are given a number.
func counting() []struct {
	name string
	do   func(api.Screen, int) (api.Screen, api.Errno)
} {
	return []struct {
		name string
		do   func(api.Screen, int) (api.Screen, api.Errno)
	}{
		{"Up", Up}, {"Down", Down}, {"Left", Left}, {"Right", Right}, {"Column", Column}, {"Row", Row}, {"Tab", Tab}, {"TabBack", TabBack},
		{"To a row", func(s api.Screen, n int) (api.Screen, api.Errno) { return To(s, n, 2) }},
		{"To a column", func(s api.Screen, n int) (api.Screen, api.Errno) { return To(s, 2, n) }},
		{"To both", func(s api.Screen, n int) (api.Screen, api.Errno) { return To(s, n, n) }},
	}
}

// moves: all that move the cursor.
func moves() []call {
	all := []call{{"Return", Return}}
	for _, c := range counting() {
		for _, n := range []int{math.MinInt, 1, 3, math.MaxInt} {
			all = append(all, call{c.name, func(s api.Screen) (api.Screen, api.Errno) { return c.do(s, n) }})
		}
	}
	return all
}

// settings: all that leave the cursor where it is.
func settings() []call {
	all := []call{{"SetTab", SetTab}}
	for _, kind := range []int{math.MinInt, -1, 0, 1, 2, 3, 4, math.MaxInt} {
		all = append(all, call{"ClearTab", func(s api.Screen) (api.Screen, api.Errno) { return ClearTab(s, kind) }})
	}
	return all
}

func calls() []call { return append(moves(), settings()...) }

// expect: nothing but what is wanted comes of it, and that is right.
func expect(t *testing.T, what string, got api.Screen, e api.Errno, want api.Screen) {
	t.Helper()
	if e != api.OK || !equal(got, want) {
		t.Fatalf("%s: %+v, %d, want %+v, 0", what, got, e, want)
	}
	if e := put.Check(got); e != api.OK {
		t.Fatalf("%s: what is answered doesn't pass Check: %d", what, e)
	}
}

// reach: the cursor goes there, Late ends, and all else stays.
func reach(t *testing.T, what string, s, got api.Screen, e api.Errno, x, y int) {
	t.Helper()
	expect(t, what, got, e, with(s, func(s *api.Screen) { s.X, s.Y, s.Late = x, y, false }))
}

// P6.1

func TestUpAndDown(t *testing.T) {
	s := at(blank(4, 7), 2, 0)
	part := region(s, 2, 4)
	for _, c := range []struct {
		what     string
		s        api.Screen
		y, n     int
		up, down int
	}{
		{"one row", s, 3, 1, 2, 4},
		{"some rows", s, 3, 2, 1, 5},
		{"just to the edges", s, 3, 3, 0, 6},
		{"beyond the edges", s, 3, 4, 0, 6},
		{"none is one", s, 3, 0, 2, 4},
		{"less than none is one", s, 3, -1, 2, 4},
		{"much less than none is one", s, 3, math.MinInt, 2, 4},
		{"as many as may be", s, 3, api.MaxParam, 0, 6},
		{"more than may be", s, 3, api.MaxParam + 1, 0, 6},
		{"far more than may be", s, 3, math.MaxInt, 0, 6},
		{"in the first row", s, 0, 1, 0, 1},
		{"in the last row", s, 6, 1, 5, 6},
		{"within, one row", part, 3, 1, 2, 4},
		{"within, beyond", part, 3, 2, 2, 4},
		{"within, far beyond", part, 3, math.MaxInt, 2, 4},
		{"at Top", part, 2, 1, 2, 3},
		{"at Top, far", part, 2, 9, 2, 4},
		{"at Bottom", part, 4, 1, 3, 4},
		{"at Bottom, far", part, 4, 9, 2, 4},
		{"just above Top", part, 1, 1, 0, 2},
		{"above Top, to Bottom", part, 1, 3, 0, 4},
		{"above Top, beyond Bottom", part, 1, 4, 0, 4},
		{"in the first row, above Top", part, 0, 99, 0, 4},
		{"just below Bottom", part, 5, 1, 4, 6},
		{"below Bottom, to Top", part, 5, 3, 2, 6},
		{"below Bottom, beyond Top", part, 5, 4, 2, 6},
		{"in the last row, below Bottom", part, 6, 99, 2, 6},
		{"Origin changes nothing", origin(part), 0, 2, 0, 2},
		{"Origin changes nothing below", origin(part), 6, 3, 3, 6},
	} {
		from := at(c.s, 2, c.y)
		got, e := Up(from, c.n)
		reach(t, "Up: "+c.what, from, got, e, 2, c.up)
		got, e = Down(from, c.n)
		reach(t, "Down: "+c.what, from, got, e, 2, c.down)
	}
}

func TestLeftAndRight(t *testing.T) {
	s := blank(7, 3)
	for _, c := range []struct {
		what        string
		x, n        int
		left, right int
	}{
		{"one column", 3, 1, 2, 4},
		{"some columns", 3, 2, 1, 5},
		{"just to the edges", 3, 3, 0, 6},
		{"beyond the edges", 3, 4, 0, 6},
		{"none is one", 3, 0, 2, 4},
		{"less than none is one", 3, -7, 2, 4},
		{"much less than none is one", 3, math.MinInt, 2, 4},
		{"as many as may be", 3, api.MaxParam, 0, 6},
		{"more than may be", 3, api.MaxParam + 1, 0, 6},
		{"far more than may be", 3, math.MaxInt, 0, 6},
		{"in the first column", 0, 1, 0, 1},
		{"in the last column", 6, 1, 5, 6},
		{"from half a wide rune", 2, 1, 1, 3},
	} {
		for y := range 3 {
			from := at(s, c.x, y)
			got, e := Left(from, c.n)
			reach(t, "Left: "+c.what, from, got, e, c.left, y)
			got, e = Right(from, c.n)
			reach(t, "Right: "+c.what, from, got, e, c.right, y)
		}
	}
}

func TestReturn(t *testing.T) {
	for x := range 4 {
		for y := range 3 {
			from := origin(region(at(blank(4, 3), x, y), 1, 2))
			got, e := Return(from)
			reach(t, "Return", from, got, e, 0, y)
		}
	}
}

// P6.2

func TestColumn(t *testing.T) {
	for _, c := range []struct{ n, x int }{
		{1, 0}, {2, 1}, {3, 2}, {4, 3}, {5, 4}, {6, 4}, {7, 4}, {api.MaxParam, 4}, {api.MaxParam + 1, 4}, {math.MaxInt, 4}, {0, 0}, {-1, 0}, {-5, 0}, {math.MinInt, 0},
	} {
		for _, from := range []api.Screen{at(blank(5, 3), 2, 1), origin(region(at(blank(5, 3), 4, 0), 1, 2))} {
			got, e := Column(from, c.n)
			reach(t, "Column", from, got, e, c.x, from.Y)
		}
	}
}

// rowCases: what comes of a row's number on seven rows of which those from 2 to 4 scroll.
func rowCases() []struct{ n, plain, within int } {
	return []struct{ n, plain, within int }{
		{1, 0, 2}, {2, 1, 3}, {3, 2, 4}, {4, 3, 4}, {5, 4, 4}, {6, 5, 4}, {7, 6, 4}, {8, 6, 4}, {9, 6, 4},
		{api.MaxParam, 6, 4}, {api.MaxParam + 1, 6, 4}, {math.MaxInt, 6, 4}, {0, 0, 2}, {-1, 0, 2}, {-7, 0, 2}, {math.MinInt, 0, 2},
	}
}

func TestRow(t *testing.T) {
	s := region(blank(4, 7), 2, 4)
	for _, c := range rowCases() {
		for y := range 7 {
			from := at(s, 3, y)
			got, e := Row(from, c.n)
			reach(t, "Row", from, got, e, 3, c.plain)
			from = origin(from)
			got, e = Row(from, c.n)
			reach(t, "Row with Origin", from, got, e, 3, c.within)
		}
	}
}

// Without rows that don't scroll, Origin makes no difference.
func TestRowOfAll(t *testing.T) {
	for _, c := range []struct{ n, y int }{{-3, 0}, {0, 0}, {1, 0}, {2, 1}, {3, 2}, {4, 2}, {math.MaxInt, 2}} {
		for _, from := range []api.Screen{at(blank(2, 3), 1, 1), origin(at(blank(2, 3), 1, 1))} {
			got, e := Row(from, c.n)
			reach(t, "Row", from, got, e, 1, c.y)
		}
	}
}

func TestTo(t *testing.T) {
	s := at(region(blank(5, 7), 2, 4), 2, 3)
	for _, c := range rowCases() {
		for _, d := range []struct{ n, x int }{{1, 0}, {3, 2}, {5, 4}, {6, 4}, {math.MaxInt, 4}, {0, 0}, {-2, 0}, {math.MinInt, 0}} {
			got, e := To(s, c.n, d.n)
			reach(t, "To", s, got, e, d.x, c.plain)
			from := origin(s)
			got, e = To(from, c.n, d.n)
			reach(t, "To with Origin", from, got, e, d.x, c.within)
		}
	}
}

// P6.3

func TestTabs(t *testing.T) {
	some := tabs(blank(12, 2), 3, 4, 9)
	for _, c := range []struct {
		what        string
		s           api.Screen
		x, n        int
		right, left int
	}{
		{"from the first column", some, 0, 1, 3, 0},
		{"ahead of one", some, 2, 1, 3, 0},
		{"at one", some, 3, 1, 4, 0},
		{"at one, with one beside it", some, 4, 1, 9, 3},
		{"between two", some, 6, 1, 9, 4},
		{"behind the last", some, 10, 1, 11, 9},
		{"at the last", some, 9, 1, 11, 4},
		{"from the last column", some, 11, 1, 11, 9},
		{"two", some, 4, 2, 11, 0},
		{"two that are there", some, 5, 2, 11, 3},
		{"three", some, 0, 3, 9, 0},
		{"three back", some, 11, 3, 11, 3},
		{"more than there are", some, 6, 4, 11, 0},
		{"none is one", some, 6, 0, 9, 4},
		{"less than none is one", some, 6, -1, 9, 4},
		{"much less than none is one", some, 6, math.MinInt, 9, 4},
		{"as many as may be", some, 6, api.MaxParam, 11, 0},
		{"far more than may be", some, 6, math.MaxInt, 11, 0},
		{"without any", tabs(some), 5, 1, 11, 0},
		{"without any, in the first column", tabs(some), 0, 1, 11, 0},
		{"without any, in the last column", tabs(some), 11, 1, 11, 0},
		{"at the edges", tabs(some, 0, 11), 5, 1, 11, 0},
		{"beyond the edges", tabs(some, 0, 11), 5, 2, 11, 0},
		{"only here", tabs(some, 5), 5, 1, 11, 0},
		{"everywhere", tabs(some, 0, 1, 2, 3, 4, 5, 6, 7, 8, 9, 10, 11), 5, 2, 7, 3},
	} {
		for y := range 2 {
			from := at(c.s, c.x, y)
			got, e := Tab(from, c.n)
			reach(t, "Tab: "+c.what, from, got, e, c.right, y)
			got, e = TabBack(from, c.n)
			reach(t, "TabBack: "+c.what, from, got, e, c.left, y)
		}
	}
}

func TestSetTab(t *testing.T) {
	for _, c := range []struct {
		x            int
		before, then []int
	}{
		{0, nil, []int{0}}, {2, nil, []int{2}}, {4, nil, []int{4}}, {2, []int{2}, []int{2}}, {1, []int{0, 2}, []int{0, 1, 2}}, {4, []int{0, 1, 2, 3, 4}, []int{0, 1, 2, 3, 4}},
	} {
		from := tabs(at(blank(5, 2), c.x, 1), c.before...)
		got, e := SetTab(from)
		expect(t, "SetTab", got, e, tabs(from, c.then...))
		if then := tabsOf(got); !slices.Equal(then, c.then) {
			t.Errorf("SetTab at %d of %v: %v, want %v", c.x, c.before, then, c.then)
		}
	}
}

func TestClearTab(t *testing.T) {
	for _, c := range []struct {
		kind, x      int
		before, then []int
	}{
		{0, 2, []int{0, 2, 4}, []int{0, 4}},
		{0, 0, []int{0, 2, 4}, []int{2, 4}},
		{0, 4, []int{0, 2, 4}, []int{0, 2}},
		{0, 1, []int{0, 2, 4}, []int{0, 2, 4}},
		{0, 1, nil, nil},
		{-1, 2, []int{0, 2, 4}, []int{0, 4}},
		{-3, 2, []int{0, 2, 4}, []int{0, 4}},
		{math.MinInt, 2, []int{0, 2, 4}, []int{0, 4}},
		{3, 2, []int{0, 2, 4}, nil},
		{3, 1, []int{0, 2, 4}, nil},
		{3, 1, nil, nil},
		{1, 2, []int{0, 2, 4}, []int{0, 2, 4}},
		{2, 2, []int{0, 2, 4}, []int{0, 2, 4}},
		{4, 2, []int{0, 2, 4}, []int{0, 2, 4}},
		{5, 2, []int{0, 2, 4}, []int{0, 2, 4}},
		{api.MaxParam, 2, []int{0, 2, 4}, []int{0, 2, 4}},
		{math.MaxInt, 2, []int{0, 2, 4}, []int{0, 2, 4}},
	} {
		from := tabs(at(blank(5, 2), c.x, 1), c.before...)
		got, e := ClearTab(from, c.kind)
		expect(t, "ClearTab", got, e, tabs(from, c.then...))
		if then := tabsOf(got); !slices.Equal(then, c.then) {
			t.Errorf("ClearTab %d at %d of %v: %v, want %v", c.kind, c.x, c.before, then, c.then)
		}
	}
}

// What was set is found, and what was cleared isn't.
func TestTabsOneByOne(t *testing.T) {
	s, _ := put.New(20, 2)
	s.X = 5
	s, _ = SetTab(s)
	s, _ = Return(s)
	for _, want := range []int{5, 8, 16, 19, 19} {
		s, _ = Tab(s, 1)
		if s.X != want {
			t.Errorf("Tab: %d, want %d", s.X, want)
		}
	}
	s, _ = Column(s, 9)
	s, _ = ClearTab(s, 0)
	s, _ = TabBack(s, 1)
	if s.X != 5 {
		t.Errorf("TabBack: %d, want 5", s.X)
	}
	s, _ = Tab(s, 1)
	if s.X != 16 {
		t.Errorf("Tab: %d, want 16", s.X)
	}
}

// Late

// Every move ends Late, one that goes nowhere, too.
func TestLateEnds(t *testing.T) {
	for y := range 5 {
		from := late(tabs(at(region(blank(4, 5), 1, 3), 3, y), 2))
		for _, c := range moves() {
			if got, e := c.do(from); e != api.OK || got.Late {
				t.Errorf("%s from row %d: %v, %d", c.name, y, got.Late, e)
			}
		}
	}
	one := late(blank(1, 1))
	for _, c := range moves() {
		got, e := c.do(one)
		reach(t, c.name+" on one cell", one, got, e, 0, 0)
	}
}

// The next rune goes where the cursor was taken: that is what Late's end is for.
func TestPrintBehindAMove(t *testing.T) {
	s, _ := put.New(3, 2)
	s, _ = put.Text(s, "abc")
	s, _ = Right(s, 1)
	s, _ = put.Text(s, "x")
	if s.G.Cells[2].R != 'x' || s.Y != 0 {
		t.Errorf("%+v", s)
	}
}

func TestLateStays(t *testing.T) {
	from := late(tabs(at(blank(4, 2), 0, 1), 1, 3))
	got, e := SetTab(tabs(from))
	expect(t, "SetTab", got, e, tabs(from, 3))
	for _, c := range []struct {
		kind int
		then []int
	}{{math.MinInt, []int{1}}, {-1, []int{1}}, {0, []int{1}}, {1, []int{1, 3}}, {2, []int{1, 3}}, {3, nil}, {4, []int{1, 3}}, {math.MaxInt, []int{1, 3}}} {
		got, e := ClearTab(from, c.kind)
		expect(t, "ClearTab", got, e, tabs(from, c.then...))
		if !got.Late {
			t.Errorf("ClearTab %d ends Late", c.kind)
		}
	}
}

// The model: the chapter's words, one step after the other.

func model(name string, s api.Screen, n int) (x, y int) {
	x, y = s.X, s.Y
	times := n
	if times < 1 {
		times = 1
	}
	first, last := 0, s.G.H-1
	if s.Modes&api.Origin != 0 {
		first, last = s.Top, s.Bottom
	}
	row := func(n int) {
		for y = first; n > 1 && y != last; n-- {
			y++
		}
	}
	column := func(n int) {
		for x = 0; n > 1 && x != s.G.W-1; n-- {
			x++
		}
	}
	switch name {
	case "Column":
		column(times)
	case "Row":
		row(times)
	case "To a row":
		row(times)
		column(2)
	case "To a column":
		row(2)
		column(times)
	case "To both":
		row(times)
		column(times)
	default:
		for range min(times, 200) { // more than any screen has rows, columns or tabs
			x, y = modelStep(name, s, x, y)
		}
	}
	return x, y
}

func modelStep(name string, s api.Screen, x, y int) (int, int) {
	last := s.G.W - 1
	switch name {
	case "Up":
		if y != 0 && y != s.Top {
			y--
		}
	case "Down":
		if y != s.G.H-1 && y != s.Bottom {
			y++
		}
	case "Left":
		if x != 0 {
			x--
		}
	case "Right":
		if x != last {
			x++
		}
	case "Tab":
		next := slices.IndexFunc(tabsOf(s), func(c int) bool { return c > x })
		if next < 0 {
			return last, y
		}
		x = tabsOf(s)[next]
	case "TabBack":
		ahead := 0
		for _, c := range tabsOf(s) {
			if c < x {
				ahead = c
			}
		}
		x = ahead
	}
	return x, y
}

// rightScreens: of some sizes, with each place of them the cursor's, all rows that may scroll, all tabs that may be, with and without Origin, Wrap and Late.
func rightScreens() []api.Screen {
	var all []api.Screen
	for _, size := range [][2]int{{1, 1}, {2, 1}, {1, 2}, {5, 1}, {1, 5}, {4, 4}} {
		s := blank(size[0], size[1])
		for cell := range s.G.Cells {
			from := at(s, cell%s.G.W, cell/s.G.W)
			for pattern := range 1 << s.G.W {
				all = append(all, statesOf(from, pattern)...)
			}
			for top := range s.G.H {
				for bottom := top + 1; bottom < s.G.H; bottom++ {
					all = append(all, statesOf(region(from, top, bottom), 1)...)
				}
			}
		}
	}
	return all
}

// statesOf s, with tabs in those columns whose bits pattern has.
func statesOf(s api.Screen, pattern int) []api.Screen {
	s = with(s, func(s *api.Screen) {
		for x := range s.Tabs {
			s.Tabs[x] = pattern>>x&1 != 0
		}
	})
	all := []api.Screen{s, origin(s), with(s, func(s *api.Screen) { s.Modes = 0 }), with(s, func(s *api.Screen) { s.Modes = 63 })}
	if s.X == s.G.W-1 {
		all = append(all, late(s), late(origin(s)))
	}
	return all
}

func TestModel(t *testing.T) {
	for _, s := range rightScreens() {
		for _, c := range counting() {
			for _, n := range []int{math.MinInt, 0, 1, 2, 3, 4, 5, math.MaxInt} {
				got, e := c.do(s, n)
				x, y := model(c.name, s, n)
				reach(t, c.name, s, got, e, x, y)
			}
		}
	}
}

// The greatest screen, from one corner to the other.
func TestGreatest(t *testing.T) {
	s, _ := put.New(api.MaxWide, api.MaxHigh)
	right, down := api.MaxWide-1, api.MaxHigh-1
	for _, c := range counting() {
		for _, from := range []api.Screen{s, at(s, right, down)} {
			for _, n := range []int{1, 2, 15, 16, 59, 60, 61, 119, 120, 121, api.MaxParam, math.MaxInt} {
				got, e := c.do(from, n)
				x, y := model(c.name, from, n)
				reach(t, c.name, from, got, e, x, y)
			}
		}
	}
}

// Wrong inputs

// fault: one thing that Check refuses, and its error.
type fault struct {
	what string
	want api.Errno
	set  func(*api.Screen)
}

// faults in the order in which Check tells them, by groups: of those of one group none goes ahead of another.
func faults() [][]fault {
	return [][]fault{{
		{"no cells", api.ErrSize, func(s *api.Screen) { s.G = api.Grid{} }},
		{"no width", api.ErrSize, func(s *api.Screen) { s.G.W = 0 }},
		{"a width below 0", api.ErrSize, func(s *api.Screen) { s.G.W = -4 }},
		{"a cell too few", api.ErrSize, func(s *api.Screen) { s.G.Cells = s.G.Cells[1:] }},
		{"too many rows", api.ErrSize, func(s *api.Screen) { s.G.H = api.MaxHigh + 1 }},
		{"a wrong rune", api.ErrRange, func(s *api.Screen) { s.G.Cells[0].R = '\n' }},
		{"a wrong style", api.ErrRange, func(s *api.Screen) { s.G.Cells[0].S = wrong }},
		{"half a rune", api.ErrForm, func(s *api.Screen) { s.G.Cells[0].R = 0 }},
	}, {
		{"X below 0", api.ErrRange, func(s *api.Screen) { s.X = -1 }},
		{"X at W", api.ErrRange, func(s *api.Screen) { s.X = 4 }},
		{"X as high as can be", api.ErrRange, func(s *api.Screen) { s.X = math.MaxInt }},
		{"Y below 0", api.ErrRange, func(s *api.Screen) { s.Y = -1 }},
		{"Y at H", api.ErrRange, func(s *api.Screen) { s.Y = 3 }},
		{"Y as low as can be", api.ErrRange, func(s *api.Screen) { s.Y = math.MinInt }},
		{"K.X below 0", api.ErrRange, func(s *api.Screen) { s.K.X = -1 }},
		{"K.Y at H", api.ErrRange, func(s *api.Screen) { s.K.Y = 3 }},
		{"Top below 0", api.ErrRange, func(s *api.Screen) { s.Top = -1 }},
		{"Top at Bottom", api.ErrRange, func(s *api.Screen) { s.Top, s.Bottom = 1, 1 }},
		{"Top behind Bottom", api.ErrRange, func(s *api.Screen) { s.Top, s.Bottom = 2, 1 }},
		{"Bottom at H", api.ErrRange, func(s *api.Screen) { s.Bottom = 3 }},
	}, {
		{"late ahead of the last column", api.ErrForm, func(s *api.Screen) { s.X, s.Late = 2, true }},
		{"late without Wrap", api.ErrForm, func(s *api.Screen) { s.X, s.Late, s.Modes = 3, true, api.Origin }},
	}, {
		{"no style", api.ErrRange, func(s *api.Screen) { s.S = wrong }},
		{"no kept style", api.ErrRange, func(s *api.Screen) { s.K.S = wrong }},
		{"modes below 0", api.ErrRange, func(s *api.Screen) { s.Modes = -1 }},
		{"modes above 63", api.ErrRange, func(s *api.Screen) { s.Modes = 64 }},
		{"kept Insert", api.ErrRange, func(s *api.Screen) { s.K.Modes = api.Insert }},
	}, {
		{"no tabs", api.ErrForm, func(s *api.Screen) { s.Tabs = nil }},
		{"a tab too few", api.ErrForm, func(s *api.Screen) { s.Tabs = s.Tabs[1:] }},
		{"a tab too many", api.ErrForm, func(s *api.Screen) { s.Tabs = make([]bool, 5) }},
		{"a last rune on another", api.ErrForm, func(s *api.Screen) { s.Last = 0x301 }},
		{"a last rune below all", api.ErrForm, func(s *api.Screen) { s.Last = -1 }},
		{"a title that isn't clean", api.ErrForm, func(s *api.Screen) { s.Title = "a\tb" }},
		{"a title that is too long", api.ErrForm, func(s *api.Screen) { s.Title = strings.Repeat("日", api.MaxTitle+1) }},
	}, {
		{"too many rows gone", api.ErrMany, func(s *api.Screen) {
			s.Gone = slices.Repeat([][]api.Cell{{{R: 'a'}}}, api.MaxHistory+1)
		}},
	}, {
		{"a gone row without cells", api.ErrForm, func(s *api.Screen) { s.Gone[1] = nil }},
		{"half a rune in a gone row", api.ErrForm, func(s *api.Screen) { s.Gone[1] = s.Gone[1][:1] }},
		{"a gone row that is too long", api.ErrForm, func(s *api.Screen) { s.Gone[0] = slices.Repeat(s.Gone[0], api.MaxWide+1) }},
	}}
}

func TestWrongScreens(t *testing.T) {
	for _, f := range slices.Concat(faults()...) {
		s := with(blank(4, 3), f.set)
		for _, c := range calls() {
			got, e := c.do(s)
			if e != f.want || !reflect.DeepEqual(got, api.Screen{}) {
				t.Errorf("%s of a screen with %s: %+v, %d, want nothing, %d", c.name, f.what, got, e, f.want)
			}
		}
	}
	for _, c := range calls() {
		if got, e := c.do(api.Screen{}); e != api.ErrSize || !reflect.DeepEqual(got, api.Screen{}) {
			t.Errorf("%s of no screen: %+v, %d", c.name, got, e)
		}
	}
}

// Of two faults the one that Check tells first is told.
func TestWrongTwice(t *testing.T) {
	all := faults()
	for i, group := range all {
		for _, f := range group {
			for _, g := range slices.Concat(all[i+1:]...) {
				s := with(with(blank(4, 3), g.set), f.set)
				for _, c := range calls() {
					if _, e := c.do(s); e != f.want {
						t.Errorf("%s of a screen with %s, and %s: %d, want %d", c.name, f.what, g.what, e, f.want)
					}
				}
			}
		}
	}
}

// P2

// roomy: s, each list with spare room behind it that has something in it; and whether all of it, the spare room, too, is as it was.
func roomy(s api.Screen) (api.Screen, func() bool) {
	mark := api.Cell{R: 'M', S: red}
	whole := copyOf(s)
	whole.G.Cells = append(whole.G.Cells, mark, mark)
	whole.Tabs = append(whole.Tabs, true, false)
	var rows [][]api.Cell
	for _, row := range whole.Gone {
		rows = append(rows, append(row, mark, mark))
	}
	whole.Gone = append(slices.Clone(rows), []api.Cell{mark}, []api.Cell{mark})
	for i := range rows {
		whole.Gone[i] = rows[i][:len(rows[i])-2]
	}
	before, rowsBefore := copyOf(whole), copyOf(api.Screen{Gone: rows})
	in := whole
	in.G.Cells = in.G.Cells[:len(s.G.Cells)]
	in.Tabs = in.Tabs[:len(s.Tabs)]
	in.Gone = in.Gone[:len(s.Gone)]
	return in, func() bool {
		return equal(whole, before) && equal(api.Screen{Gone: rows}, rowsBefore)
	}
}

// spoil writes over all that s has, the spare room, too.
func spoil(s api.Screen) {
	for _, row := range append([][]api.Cell{s.G.Cells}, s.Gone...) {
		row = row[:cap(row)]
		for i := range row {
			row[i] = api.Cell{R: '!'}
		}
	}
	tabs := s.Tabs[:cap(s.Tabs)]
	for i := range tabs {
		tabs[i] = !tabs[i]
	}
	clear(s.Gone[:cap(s.Gone)])
}

func TestHandedInIsOnlyRead(t *testing.T) {
	some := at(tabs(blank(4, 3), 0, 2), 2, 1)
	for _, s := range []api.Screen{some, late(some), origin(region(some, 1, 2)), with(some, func(s *api.Screen) { s.Gone = nil })} {
		for _, c := range calls() {
			in, same := roomy(s)
			got, e := c.do(in)
			if e != api.OK || !same() {
				t.Errorf("%s of %+v changes what it was handed", c.name, s)
			}
			spoil(got)
			if !same() {
				t.Errorf("%s of %+v shares what it answers with what it was handed", c.name, s)
			}
		}
	}
	for _, f := range slices.Concat(faults()...) {
		for _, c := range calls() {
			in, same := roomy(with(some, f.set))
			if c.do(in); !same() {
				t.Errorf("%s of a screen with %s changes what it was handed", c.name, f.what)
			}
		}
	}
}

// No list of an answer shares memory with another one, even if those that were handed in do: each is written over, and its spare room, and the others stay.
func TestListsOfAnAnswerShareNothing(t *testing.T) {
	s := at(blank(4, 3), 2, 1)
	s.G.Cells[1], s.G.Cells[2] = api.Cell{R: 'a'}, api.Cell{R: 'b'}
	s.Gone = [][]api.Cell{s.G.Cells[:4], s.G.Cells[:4], s.G.Cells[2:7]}
	for _, c := range calls() {
		got, _ := c.do(s)
		for i, one := range append([][]api.Cell{got.G.Cells}, got.Gone...) {
			before, kept := copyOf(got), slices.Clone(one)
			room := one[:cap(one)]
			for j := range room {
				room[j] = api.Cell{R: '!'}
			}
			others := copyOf(got)
			if i == 0 {
				others.G.Cells = kept
			} else {
				others.Gone[i-1] = kept
			}
			if !equal(others, before) {
				t.Errorf("%s: list %d shares memory with another one", c.name, i)
			}
			copy(one, kept)
		}
	}
}

// Lists that have nothing in them may be nil or empty.
func TestNoneGone(t *testing.T) {
	s := at(blank(4, 3), 2, 1)
	for _, c := range calls() {
		a, e := c.do(with(s, func(s *api.Screen) { s.Gone = nil }))
		b, f := c.do(with(s, func(s *api.Screen) { s.Gone = make([][]api.Cell, 0, 4) }))
		if e != api.OK || f != api.OK || !equal(a, b) {
			t.Errorf("%s: %+v, %d and %+v, %d", c.name, a, e, b, f)
		}
	}
}
