package render

import (
	"fmt"
	"math"
	"reflect"
	"slices"
	"testing"

	"trellis/api"
)

// wrongGrids: what is wrong with them, of 3 times 2 cells and of other sizes.
func wrongGrids() map[string]struct {
	g    api.Grid
	want api.Errno
} {
	type wrong = struct {
		g    api.Grid
		want api.Errno
	}
	changed := func(change func(g api.Grid)) api.Grid {
		g := of(3, api.Style{Fore: 2}, "a日", "b")
		change(g)
		return g
	}
	return map[string]wrong{
		"nothing":             {api.Grid{}, api.ErrSize},
		"no rows":             {api.Grid{W: 3}, api.ErrSize},
		"too few cells":       {api.Grid{W: 3, H: 2, Cells: blank(3, 2).Cells[:5]}, api.ErrSize},
		"too many cells":      {api.Grid{W: 3, H: 2, Cells: blank(3, 3).Cells}, api.ErrSize},
		"too wide":            {api.Grid{W: 121, H: 1, Cells: make([]api.Cell, 121)}, api.ErrSize},
		"too high":            {api.Grid{W: 1, H: 61, Cells: make([]api.Cell, 61)}, api.ErrSize},
		"below no cells":      {api.Grid{W: -3, H: -2, Cells: blank(3, 2).Cells}, api.ErrSize},
		"sizes that wrap":     {api.Grid{W: math.MaxInt, H: math.MaxInt, Cells: blank(1, 1).Cells}, api.ErrSize},
		"no rune":             {changed(func(g api.Grid) { g.Cells[0].R = 0x110000 }), api.ErrRange},
		"a rune below all":    {changed(func(g api.Grid) { g.Cells[5].R = -1 }), api.ErrRange},
		"a control":           {changed(func(g api.Grid) { g.Cells[4].R = 0x1b }), api.ErrRange},
		"no width":            {changed(func(g api.Grid) { g.Cells[3].R = 0x301 }), api.ErrRange},
		"no style":            {changed(func(g api.Grid) { g.Cells[5].S.Fore = 257 }), api.ErrRange},
		"a half alone":        {changed(func(g api.Grid) { g.Cells[0].R = 0 }), api.ErrForm},
		"a half cut off":      {changed(func(g api.Grid) { g.Cells[2].R = 'x' }), api.ErrForm},
		"a half at an edge":   {changed(func(g api.Grid) { g.Cells[5].R = '日' }), api.ErrForm},
		"halves in two looks": {changed(func(g api.Grid) { g.Cells[2].S.Fore = 3 }), api.ErrForm},
	}
}

// isWrong: does Turn answer that error, and nothing else?
func isWrong(t *testing.T, what string, from, to api.Grid, x, y int, want api.Errno) {
	t.Helper()
	if b, e := Turn(from, to, x, y); e != want || b != "" {
		t.Errorf("turn, %s, cursor %d, %d: %.40q, %d; want %d", what, x, y, b, e, want)
	}
}

func isWrongAll(t *testing.T, what string, to api.Grid, x, y int, want api.Errno) {
	t.Helper()
	if b, e := All(to, x, y); e != want || b != "" {
		t.Errorf("all, %s, cursor %d, %d: %.40q, %d; want %d", what, x, y, b, e, want)
	}
}

// From's error is told ahead of to's, these ahead of sizes that differ, and that ahead of the cursor.
func TestWrongGrids(t *testing.T) {
	right := of(3, api.Style{Fore: 2}, "a日", "b")
	for what, c := range wrongGrids() {
		for _, at := range [][2]int{{0, 0}, {-1, -1}, {-1, 0}, {3, 2}, {math.MaxInt, math.MinInt}} {
			isWrong(t, what+", from", c.g, right, at[0], at[1], c.want)
			isWrong(t, what+", to", right, c.g, at[0], at[1], c.want)
			isWrong(t, what+", to, of another size", blank(5, 5), c.g, at[0], at[1], c.want)
			isWrong(t, what+", from, of another size", c.g, blank(5, 5), at[0], at[1], c.want)
			isWrongAll(t, what, c.g, at[0], at[1], c.want)
			for other, d := range wrongGrids() {
				isWrong(t, what+" ahead of "+other, c.g, d.g, at[0], at[1], c.want)
			}
		}
	}
}

func TestWrongSizes(t *testing.T) {
	sizes := [][2]int{{1, 1}, {3, 2}, {2, 3}, {3, 3}, {6, 1}, {1, 6}, {120, 60}, {60, 120 / 2}}
	for _, from := range sizes {
		for _, to := range sizes {
			if from == to {
				continue
			}
			for _, at := range [][2]int{{0, 0}, {-1, -1}, {-1, 0}, {0, 60}, {math.MinInt, 0}} {
				isWrong(t, fmt.Sprintf("%v, %v", from, to), blank(from[0], from[1]), blank(to[0], to[1]), at[0], at[1], api.ErrSize)
			}
		}
	}
}

func TestWrongCursors(t *testing.T) {
	from, to := of(3, api.Style{}, "a日", "b"), of(3, api.Style{}, "日a", "c")
	for _, at := range [][2]int{
		{3, 0}, {3, 1}, {0, 2}, {2, 2}, {3, 2}, {-1, 0}, {-1, 1}, {0, -1}, {2, -1}, {-1, 2}, {3, -1}, {-2, -2}, {-2, -1}, {-1, -2}, {-2, 0}, {0, -2},
		{math.MaxInt, 0}, {0, math.MaxInt}, {math.MinInt, 0}, {0, math.MinInt}, {math.MinInt, math.MinInt}, {math.MaxInt, math.MaxInt}, {-1, math.MinInt}, {math.MinInt, -1}, {1 << 32, 1 << 32},
	} {
		isWrong(t, "another grid", from, to, at[0], at[1], api.ErrRange)
		isWrong(t, "the same grid", to, to, at[0], at[1], api.ErrRange)
		isWrongAll(t, "", to, at[0], at[1], api.ErrRange)
	}
}

// spare: g, with cells behind its own that aren't to be touched.
func spare(g api.Grid) (api.Grid, []api.Cell) {
	cells := slices.Concat(g.Cells, slices.Repeat([]api.Cell{{R: '!', S: fullLook}}, 20))
	g.Cells = cells[:len(g.Cells)]
	return g, cells
}

func TestOnlyRead(t *testing.T) {
	for _, p := range pages() {
		from, fromCells := spare(p.from)
		to, toCells := spare(p.to)
		fromBefore, toBefore := slices.Clone(fromCells), slices.Clone(toCells)
		for _, c := range append(cursors(to.W, to.H), [2]int{to.W, 0}) {
			first, e := Turn(from, to, c[0], c[1])
			again, f := Turn(p.from, p.to, c[0], c[1])
			if first != again || e != f {
				t.Errorf("%s: %q, %d, and then %q, %d", p.what, first, e, again, f)
			}
			All(to, c[0], c[1])
			Turn(to, to, c[0], c[1])
		}
		if !reflect.DeepEqual(fromCells, fromBefore) || !reflect.DeepEqual(toCells, toBefore) {
			t.Errorf("%s: what was handed in is changed", p.what)
		}
	}
}
