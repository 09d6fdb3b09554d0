package render

import (
	"fmt"
	"math/rand"
	"slices"
	"testing"

	"trellis/api"
	"trellis/grid"
	"trellis/text"
)

// rowsOf w cells: all that can be made of these cells; the wide ones among them take two.
func rowsOf(w int, of []api.Cell) [][]api.Cell {
	if w == 0 {
		return [][]api.Cell{nil}
	}
	var l [][]api.Cell
	for _, c := range of {
		cells := []api.Cell{c}
		if text.Width(c.R) == 2 {
			cells = append(cells, api.Cell{S: c.S})
		}
		if len(cells) > w {
			continue
		}
		for _, rest := range rowsOf(w-len(cells), of) {
			l = append(l, slices.Concat(cells, rest))
		}
	}
	return l
}

// gridsOf w times h cells: all that can be made of these.
func gridsOf(w, h int, of []api.Cell) []api.Grid {
	grids := []api.Grid{{W: w}}
	for range h {
		var more []api.Grid
		for _, g := range grids {
			for _, row := range rowsOf(w, of) {
				more = append(more, api.Grid{W: w, H: g.H + 1, Cells: slices.Concat(g.Cells, row)})
			}
		}
		grids = more
	}
	return grids
}

// Any small grid turns into any other.
func TestTurnAllSmall(t *testing.T) {
	bold, red := api.Style{Bits: api.Bold}, api.Style{Back: 2}
	few := []api.Cell{{R: ' '}, {R: 'a', S: bold}, {R: '日'}}
	more := append(few, api.Cell{R: 'a'}, api.Cell{R: ' ', S: red}, api.Cell{R: '日', S: red})
	for _, c := range []struct {
		w, h int
		of   []api.Cell
	}{
		{1, 1, more}, {2, 1, more}, {3, 1, more}, {1, 2, more}, {1, 3, few}, {4, 1, few}, {5, 1, few[1:]}, {2, 2, few}, {6, 1, few[1:]},
	} {
		grids := gridsOf(c.w, c.h, c.of)
		for i, from := range grids {
			if e := grid.Check(from); e != api.OK {
				t.Fatalf("%v: %d", from, e)
			}
			for k, to := range grids {
				places := cursors(c.w, c.h)
				at, start := places[(i+k)%len(places)], places[1+(i+3*k)%(len(places)-1)]
				turned(t, showing(from, start[0], start[1], (i+k)%2 == 0), to, at[0], at[1])
				if i%7 == k%7 {
					drawnAnew(t, showing(from, start[0], start[1], k%2 == 0), to, at[0], at[1])
				}
			}
			if t.Failed() {
				return
			}
		}
	}
}

// some grid: runs of runes, now and then wide, now and then in another look.
func some(random *rand.Rand, w, h int) api.Grid {
	g := blank(w, h)
	runes := []rune("  ab─日本\u00e9\U0001f600\U00020000\ufffd")
	looks := []api.Style{{}, {}, fullLook, {Bits: api.Reverse}, {Fore: 3}, {Back: 12, Bits: api.Bold}}
	for range random.Intn(w*h) + 1 {
		r, look := runes[random.Intn(len(runes))], looks[random.Intn(len(looks))]
		run := slices.Repeat([]rune{r}, 1+random.Intn(1+random.Intn(w)))
		g = with(g, random.Intn(w), random.Intn(h), string(run), look)
	}
	return g
}

// changed g: a few of its cells.
func changed(random *rand.Rand, g api.Grid) api.Grid {
	other := some(random, g.W, g.H)
	for range random.Intn(4) {
		x, y := random.Intn(g.W), random.Intn(g.H)
		r := api.Rect{X: x, Y: y, W: 1 + random.Intn(g.W-x), H: 1 + random.Intn(g.H-y)}
		part, _ := grid.Part(other, r)
		g, _ = grid.Lay(part, g, x, y)
	}
	return g
}

// One screen that shows one grid after the other, some like those ahead of them, some not; another one that is told the last of them at once.
func TestTurnOneBehindTheOther(t *testing.T) {
	random := rand.New(rand.NewSource(18))
	for _, size := range [][2]int{{1, 1}, {1, 7}, {2, 3}, {3, 2}, {7, 1}, {8, 4}, {20, 6}, {33, 3}} {
		w, h := size[0], size[1]
		for range 12 {
			s := showing(some(random, w, h), random.Intn(w), random.Intn(h), false)
			for n := range 8 {
				to := changed(random, s.G)
				if n%4 == 3 {
					to = some(random, w, h)
				}
				places := cursors(w, h)
				at := places[random.Intn(len(places))]
				s = turned(t, s, to, at[0], at[1])
			}
			before := showing(some(random, w, h), w-1, 0, true)
			before.S = fullLook
			drawnAnew(t, before, s.G, w-1, h-1)
			if t.Failed() {
				return
			}
		}
	}
}

// What is told of each grid apart may be read as one, and is cut anywhere.
func TestTurnsAsOne(t *testing.T) {
	random := rand.New(rand.NewSource(81))
	for n := range 30 {
		s := showing(some(random, 9, 3), 8, 2, false)
		q, last := api.Line{}, s.G
		for range 6 {
			to := changed(random, last)
			b, e := Turn(last, to, random.Intn(9), random.Intn(3))
			if e != api.OK {
				t.Fatal(e)
			}
			q, last = Wait(q, b), to
		}
		b, e := Turn(last, last, 4, 1)
		if e != api.OK {
			t.Fatal(e)
		}
		q = Wait(q, b)
		out, in := s, ""
		for q.Bytes != "" {
			var piece string
			piece, q = Drain(q, 1+random.Intn(5))
			in += piece
		}
		out = read(t, out, in)
		isLeft(t, fmt.Sprintf("%d: %q", n, in), out, s, last, 4, 1)
	}
}
