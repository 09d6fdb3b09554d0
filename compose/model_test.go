package compose

import (
	"fmt"
	"slices"
	"strings"
	"testing"

	"trellis/api"
	"trellis/grid"
	"trellis/split"
)

// The model: a wall on which each pane's number stands where its part is, and 0 in between; all else is told of cells by what stands around them.
type wall [][]int

func wallOf(x api.Split, w, h int) wall {
	a := make(wall, h)
	for y := range a {
		a[y] = make([]int, w)
	}
	places, e := split.Lay(x, w, h)
	if e != api.OK {
		panic(fmt.Sprint(x, w, h, e))
	}
	for _, p := range places {
		for y := range p.R.H {
			for x := range p.R.W {
				a[p.R.Y+y][p.R.X+x] = p.Pane
			}
		}
	}
	return a
}

// at: what stands there; -1 outside.
func (a wall) at(x, y int) int {
	if y < 0 || y >= len(a) || x < 0 || x >= len(a[y]) {
		return -1
	}
	return a[y][x]
}

// begins: where the part of what stands at x, y has its first cell.
func (a wall) begins(x, y int) (int, int) {
	n := a.at(x, y)
	for a.at(x-1, y) == n {
		x--
	}
	for a.at(x, y-1) == n {
		y--
	}
	return x, y
}

// lines: the rune of a border by letters of the ways in which it goes on.
func lines(ways string) rune {
	switch ways {
	case "":
		return ' '
	case "u", "d", "ud":
		return '│'
	case "l", "r", "lr":
		return '─'
	case "udl":
		return '┤'
	case "udr":
		return '├'
	case "ulr":
		return '┴'
	case "dlr":
		return '┬'
	case "udlr":
		return '┼'
	}
	panic("borders end nowhere but at the window's ends, and have no corners: " + ways)
}

func (a wall) border(x, y int) rune {
	ways := ""
	for _, w := range []struct {
		letter string
		x, y   int
	}{{"u", 0, -1}, {"d", 0, 1}, {"l", -1, 0}, {"r", 1, 0}} {
		if a.at(x+w.x, y+w.y) == 0 {
			ways += w.letter
		}
	}
	return lines(ways)
}

// touches: does one of the cells around have that number?
func (a wall) touches(x, y, n int) bool {
	for dx := -1; dx <= 1; dx++ {
		for dy := -1; dy <= 1; dy++ {
			if a.at(x+dx, y+dy) == n {
				return true
			}
		}
	}
	return false
}

// frameCell: what stands at x, y of a frame.
func (a wall) frameCell(x, y, active int, look, lit api.Style) api.Cell {
	switch {
	case a.at(x, y) != 0:
		return api.Cell{R: ' '}
	case a.touches(x, y, active):
		return api.Cell{R: a.border(x, y), S: lit}
	}
	return api.Cell{R: a.border(x, y), S: look}
}

// every split of up to n panes, all of Size 1; their panes aren't in order.
func every(n int) []api.Split {
	l := []api.Split{{Pane: 1, Size: 1}}
	out := slices.Clone(l)
	for fresh := 2; fresh <= n; fresh++ {
		var more []api.Split
		for _, x := range l {
			for pane := 1; pane < fresh; pane++ {
				for _, way := range []int{api.Row, api.Column} {
					y, e := split.Cut(x, pane, way, fresh)
					if e != api.OK {
						panic(fmt.Sprint(x, pane, way, fresh, e))
					}
					more = append(more, y)
				}
			}
		}
		l = more
		out = append(out, l...)
	}
	return out
}

// random numbers, the same ones each time.
func random(seed uint32) func(n int) int {
	return func(n int) int {
		seed = seed*1664525 + 1013904223
		return int(seed>>8) % n
	}
}

// some split of that many panes, 1 to n, with some Sizes.
func some(n int, next func(int) int) api.Split {
	x := api.Split{Pane: 1, Size: 1}
	for fresh := 2; fresh <= n; fresh++ {
		x, _ = split.Cut(x, 1+next(fresh-1), api.Row+next(2), fresh)
		x, _ = split.Grow(x, fresh, next(9))
	}
	return x
}

// sizes that w times h may have: the least that x has, and a few that are greater.
func sizes(x api.Split) [][2]int {
	w, h, e := split.Least(x)
	if e != api.OK {
		panic(fmt.Sprint(x, e))
	}
	return [][2]int{{w, h}, {w + 1, h}, {w, h + 1}, {w + 2, h + 3}, {w + 9, h + 7}}
}

func holdFrame(t *testing.T, x api.Split, w, h, active int) {
	t.Helper()
	a := wallOf(x, w, h)
	g, e := Frame(x, w, h, active, look, lit)
	if e != api.OK || g.W != w || g.H != h || len(g.Cells) != w*h {
		t.Fatalf("Frame(%v, %d, %d, %d): %d, %d times %d", x, w, h, active, e, g.W, g.H)
	}
	for i, c := range g.Cells {
		if want := a.frameCell(i%w, i/w, active, look, lit); c != want {
			t.Errorf("Frame(%v, %d, %d, %d): at %d, %d is %v, want %v", x, w, h, active, i%w, i/w, c, want)
			return
		}
	}
}

// P17.1

func TestFrameModel(t *testing.T) {
	for _, x := range every(5) {
		for _, size := range sizes(x) {
			for _, pane := range split.Panes(x) {
				holdFrame(t, x, size[0], size[1], pane)
			}
		}
	}
	next := random(1)
	for n := range 10 * api.MaxPanes {
		x := some(1+n%api.MaxPanes, next)
		for _, size := range append(sizes(x), [2]int{api.MaxWide, api.MaxHigh}) {
			holdFrame(t, x, size[0], size[1], 1+next(1+n%api.MaxPanes))
		}
	}
}

// P17.2

// bodies of screens: none, cells with looks, and wide runes that stand at odd and at even columns.
func bodies() []string {
	return []string{"", "abcdefghijklmnopqrstuvwxyz", strings.Repeat("日", 30), "a" + strings.Repeat("日", 20), strings.Repeat("x日", 30), "日 x"}
}

// someScreen: of any size, with the cursor anywhere.
func someScreen(next func(int) int) api.Screen {
	s := page(2+next(14), 1+next(9), bodies()[next(len(bodies()))])
	for i := range s.G.Cells {
		if s.G.Cells[i].R == 0 { // both halves have one look
			s.G.Cells[i].S = s.G.Cells[i-1].S
		} else {
			s.G.Cells[i].S = api.Style{Fore: next(4), Bits: next(2)}
		}
	}
	s.X, s.Y = next(20)-2, next(12)-2
	s.Modes = next(64)
	return s
}

// seen: what stands at dx, dy of the part of a screen, of which room columns are seen from dx on.
func seen(s api.Screen, dx, dy, room int) api.Cell {
	if dx >= s.G.W || dy >= s.G.H {
		return api.Cell{R: ' '}
	}
	row := s.G.Cells[dy*s.G.W : (dy+1)*s.G.W]
	c := row[dx]
	if room == 1 && dx+1 < s.G.W && row[dx+1].R == 0 {
		c.R = ' ' // its other half isn't seen
	}
	return c
}

// stateCells: the last row.
func stateCells(state string, w int) []api.Cell {
	var l []api.Cell
	for _, r := range state {
		wide := 1
		if r >= 0x3000 {
			wide = 2
		}
		if len(l)+wide > w {
			break
		}
		l = append(l, []api.Cell{{R: r}, {}}[:wide]...)
	}
	for len(l) < w {
		l = append(l, api.Cell{R: ' '})
	}
	for i := range l {
		l[i].S.Bits = api.Reverse
	}
	return l
}

// viewModel of screens by their panes.
func viewModel(x api.Split, active int, screens map[int]api.Screen, w, h int, state string) (l []api.Cell, cx, cy int) {
	cx, cy = -1, -1
	a := wallOf(x, w, h-1)
	for y := range h - 1 {
		for x := range w {
			pane := a.at(x, y)
			if pane == 0 {
				l = append(l, a.frameCell(x, y, active, api.Style{}, api.Style{Fore: 3}))
				continue
			}
			left, top := a.begins(x, y)
			room := 1
			for a.at(x+room, y) == pane {
				room++
			}
			s := screens[pane]
			l = append(l, seen(s, x-left, y-top, room))
			if pane == active && s.X == x-left && s.Y == y-top && s.Modes&api.Hidden == 0 {
				cx, cy = x, y
			}
		}
	}
	return append(l, stateCells(state, w)...), cx, cy
}

// holdView: is it as the model has it, and each part as its screen, and all a right grid?
func holdView(t *testing.T, x api.Split, active int, next func(int) int, w, h int) {
	t.Helper()
	order := split.Panes(x)
	if next(2) == 0 {
		slices.Reverse(order)
	}
	screens := map[int]api.Screen{}
	var panes []int
	var told []api.Screen
	for _, pane := range order {
		screens[pane] = someScreen(next)
		panes = append(panes, pane)
		told = append(told, screens[pane])
	}
	state := []string{"", "[0] 1:sh", "日本日本日本日本", "x日本"}[next(4)]
	what := fmt.Sprintf("View(%v, %d, %d, %d, %q)", x, active, w, h, state)
	g, cx, cy, e := View(x, false, active, panes, told, w, h, state)
	want, wantX, wantY := viewModel(x, active, screens, w, h, state)
	if e != api.OK || g.W != w || g.H != h || !slices.Equal(g.Cells, want) || cx != wantX || cy != wantY {
		t.Fatalf("%s: %d, %d, %d\n%s; want %d, %d\n%s", what, e, cx, cy, runesOf(g), wantX, wantY, runesOf(api.Grid{W: w, H: h, Cells: want}))
	}
	holdParts(t, what, g, x, screens)
	zoomed, zx, zy, e := View(x, true, active, panes, told, w, h, state)
	want, wantX, wantY = viewModel(api.Split{Pane: active, Size: 1}, active, screens, w, h, state)
	if e != api.OK || !slices.Equal(zoomed.Cells, want) || zx != wantX || zy != wantY {
		t.Fatalf("%s, zoomed: %d, %d, %d\n%s; want %d, %d", what, e, zx, zy, runesOf(zoomed), wantX, wantY)
	}
}

// P17.3: is each part of g its pane's screen, as great as the part?
func holdParts(t *testing.T, what string, g api.Grid, x api.Split, screens map[int]api.Screen) {
	t.Helper()
	if e := grid.Check(g); e != api.OK {
		t.Errorf("%s is no right grid: %d", what, e)
	}
	places, _ := split.Lay(x, g.W, g.H-1)
	for _, p := range places {
		part, e := grid.Part(g, p.R)
		want, _ := grid.Resize(screens[p.Pane].G, p.R.W, p.R.H)
		if e != api.OK || !slices.Equal(part.Cells, want.Cells) {
			t.Errorf("%s: the part of %d is %d, %s, want %s", what, p.Pane, e, runesOf(part), runesOf(want))
		}
	}
}

func TestViewModel(t *testing.T) {
	next := random(7)
	for _, x := range every(5) {
		for _, size := range sizes(x) {
			l := split.Panes(x)
			holdView(t, x, l[next(len(l))], next, size[0], size[1]+1)
		}
	}
	for n := range 10 * api.MaxPanes {
		many := 1 + n%api.MaxPanes
		x := some(many, next)
		for _, size := range append(sizes(x), [2]int{api.MaxWide, api.MaxHigh - 1}) {
			holdView(t, x, 1+next(many), next, size[0], size[1]+1)
		}
	}
}
