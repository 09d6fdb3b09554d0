package split

import (
	"math"
	"slices"
	"testing"

	"trellis/api"
)

// P13.2

func TestLeast(t *testing.T) {
	for text, want := range map[string][2]int{
		"1": {1, 1}, "1*9999": {1, 1}, "{1,2}": {3, 1}, "[1,2]": {1, 3}, "{1*5,2*9999}*7": {3, 1}, "{1,2,3}": {5, 1}, "[1,2,3,4]": {1, 7},
		"{1,[2,3]*2}": {3, 3}, "[1,{2,3}]": {3, 3}, "{[1,2],[3,4]}": {3, 3}, "{[1,2,3],[4,5]}": {3, 5}, "{[1,2],[3,4,5]}": {3, 5}, "[{1,2,3},{4,5}]": {5, 3}, "[{1,2},{3,4,5}]": {5, 3},
		"{1,[2,{3,4}]}": {5, 3}, "{[1,{2,3,4}],[5,6,7],8}": {9, 5}, "[1,{2,[3,4,{5,6}],7}]": {7, 7},
		"{" + many(12) + "}": {23, 1}, "[" + many(12) + "]": {1, 23}, "{1,[2,{3,[4,{5,[6,{7,[8,{9,[10,{11,12}]}]}]}]}]}": {13, 11},
	} {
		if w, h, e := Least(of(text)); w != want[0] || h != want[1] || e != api.OK {
			t.Errorf("Least of %s = %d, %d, %d; want %v", text, w, h, e, want)
		}
	}
	for _, x := range append(every(6), some()...) {
		w, h, e := Least(x)
		if w != leastAlong(x, api.Row) || h != leastAlong(x, api.Column) || e != api.OK {
			t.Errorf("Least of %s = %d, %d, %d", show(x), w, h, e)
		}
	}
}

// leastAlong: the most panes that a line that way meets, and one cell between each two.
func leastAlong(x api.Split, way int) int { return 2*met(x, way) - 1 }

// met: the most panes that a line that way meets.
func met(x api.Split, way int) int {
	if x.Way == api.Leaf {
		return 1
	}
	var l []int
	sum := 0
	for _, k := range x.Kids {
		l = append(l, met(k, way))
		sum += l[len(l)-1]
	}
	if x.Way == way {
		return sum
	}
	return slices.Max(l)
}

// places of panes, in order, told by five numbers each: Pane, X, Y, W, H.
func places(l ...[5]int) []api.Place {
	var out []api.Place
	for _, p := range l {
		out = append(out, api.Place{Pane: p[0], R: api.Rect{X: p[1], Y: p[2], W: p[3], H: p[4]}})
	}
	return out
}

func TestLay(t *testing.T) {
	for _, c := range []struct {
		text string
		w, h int
		want []api.Place
	}{
		{"5", 1, 1, places([5]int{5, 0, 0, 1, 1})},
		{"5*3", api.MaxWide, api.MaxHigh, places([5]int{5, 0, 0, api.MaxWide, api.MaxHigh})},
		{"{1,2}", 3, 1, places([5]int{1, 0, 0, 1, 1}, [5]int{2, 2, 0, 1, 1})},
		{"{1,2}", 4, 1, places([5]int{1, 0, 0, 1, 1}, [5]int{2, 2, 0, 2, 1})},
		{"{1,2}*5", 5, 9, places([5]int{1, 0, 0, 2, 9}, [5]int{2, 3, 0, 2, 9})},
		{"[1,2]", 1, 3, places([5]int{1, 0, 0, 1, 1}, [5]int{2, 0, 2, 1, 1})},
		{"[1,2]", 7, 4, places([5]int{1, 0, 0, 7, 1}, [5]int{2, 0, 2, 7, 2})},
		{"[1,2]*9999", 7, 5, places([5]int{1, 0, 0, 7, 2}, [5]int{2, 0, 3, 7, 2})},
		// cells left over by Sizes that don't divide them
		{"{1,2,3}", 5, 2, places([5]int{1, 0, 0, 1, 2}, [5]int{2, 2, 0, 1, 2}, [5]int{3, 4, 0, 1, 2})},
		{"{1,2,3}", 6, 2, places([5]int{1, 0, 0, 1, 2}, [5]int{2, 2, 0, 1, 2}, [5]int{3, 4, 0, 2, 2})},
		{"{1,2,3}", 7, 2, places([5]int{1, 0, 0, 1, 2}, [5]int{2, 2, 0, 2, 2}, [5]int{3, 5, 0, 2, 2})},
		{"{1,2,3}", 8, 2, places([5]int{1, 0, 0, 2, 2}, [5]int{2, 3, 0, 2, 2}, [5]int{3, 6, 0, 2, 2})},
		{"{1*2,2,3*4}", 15, 1, places([5]int{1, 0, 0, 3, 1}, [5]int{2, 4, 0, 3, 1}, [5]int{3, 8, 0, 7, 1})},
		{"[3*4,2,1*2]", 2, 15, places([5]int{3, 0, 0, 2, 6}, [5]int{2, 0, 7, 2, 3}, [5]int{1, 0, 11, 2, 4})},
		// great Sizes
		{"{1*9999,2}", 120, 60, places([5]int{1, 0, 0, 117, 60}, [5]int{2, 118, 0, 2, 60})},
		{"{1,2*9999}", 120, 60, places([5]int{1, 0, 0, 1, 60}, [5]int{2, 2, 0, 118, 60})},
		{"{1*9999,2*9999}", 120, 1, places([5]int{1, 0, 0, 59, 1}, [5]int{2, 60, 0, 60, 1})},
		{"[1*9999,2*9998,3]", 1, 60, places([5]int{1, 0, 0, 1, 28}, [5]int{2, 0, 29, 1, 28}, [5]int{3, 0, 58, 1, 2})},
		// parts within parts: each has its own least
		{"{1,[2,3]*2}", 11, 5, places([5]int{1, 0, 0, 3, 5}, [5]int{2, 4, 0, 7, 2}, [5]int{3, 4, 3, 7, 2})},
		{"{1,[2,3]*2}", 3, 3, places([5]int{1, 0, 0, 1, 3}, [5]int{2, 2, 0, 1, 1}, [5]int{3, 2, 2, 1, 1})},
		{"{[1,{2,3}],4*3}", 13, 6, places([5]int{1, 0, 0, 5, 2}, [5]int{2, 0, 3, 2, 3}, [5]int{3, 3, 3, 2, 3}, [5]int{4, 6, 0, 7, 6})},
		{"[{1,[2,3]},4]", 9, 9, places([5]int{1, 0, 0, 4, 5}, [5]int{2, 5, 0, 4, 2}, [5]int{3, 5, 3, 4, 2}, [5]int{4, 0, 6, 9, 3})},
	} {
		if got, e := Lay(of(c.text), c.w, c.h); !slices.Equal(got, c.want) || e != api.OK {
			t.Errorf("Lay of %s in %d times %d = %v, %d; want %v", c.text, c.w, c.h, got, e, c.want)
		}
	}
}

func TestLaySize(t *testing.T) {
	for _, x := range append(every(5), some()...) {
		w, h := leastAlong(x, api.Row), leastAlong(x, api.Column)
		for _, size := range [][2]int{{w, h}, {api.MaxWide, h}, {w, api.MaxHigh}, {api.MaxWide, api.MaxHigh}} {
			if l, e := Lay(x, size[0], size[1]); len(l) != len(order(x)) || e != api.OK {
				t.Errorf("Lay of %s in %v = %v, %d", show(x), size, l, e)
			}
		}
		for _, size := range [][2]int{
			{w - 1, h}, {w, h - 1}, {w - 1, h - 1}, {w - 1, api.MaxHigh}, {api.MaxWide, h - 1}, {0, 0}, {0, h}, {w, 0}, {-1, h}, {w, -1},
			{api.MaxWide + 1, h}, {w, api.MaxHigh + 1}, {api.MaxWide + 1, api.MaxHigh + 1}, {api.MaxHigh, api.MaxWide}, {api.MaxWide + 1, h - 1}, {w - 1, api.MaxHigh + 1},
			{math.MaxInt, h}, {w, math.MaxInt}, {math.MinInt, h}, {w, math.MinInt}, {math.MinInt, math.MaxInt},
		} {
			if l, e := Lay(x, size[0], size[1]); l != nil || e != api.ErrSize {
				t.Errorf("Lay of %s in %v = %v, %d", show(x), size, l, e)
			}
		}
	}
}

// P13.6

// wall is w times h cells, and how often each is taken.
type wall struct {
	w     int
	taken []int
}

func (a wall) paint(r api.Rect) {
	for y := r.Y; y < r.Y+r.H; y++ {
		for x := r.X; x < r.X+r.W; x++ {
			a.taken[y*a.w+x]++
		}
	}
}

// around: the least rectangle that has all of these.
func around(l []api.Place) api.Rect {
	r := l[0].R
	right, below := r.X+r.W, r.Y+r.H
	for _, p := range l {
		r.X, r.Y = min(r.X, p.R.X), min(r.Y, p.R.Y)
		right, below = max(right, p.R.X+p.R.W), max(below, p.R.Y+p.R.H)
	}
	r.W, r.H = right-r.X, below-r.Y
	return r
}

// turned: r with columns as rows.
func turned(r api.Rect) api.Rect { return api.Rect{X: r.Y, Y: r.X, W: r.H, H: r.W} }

// parted: do the places, those of the panes of x, part r as they must? The cells between parts are painted.
func parted(t *testing.T, x api.Split, l []api.Place, r api.Rect, a wall) {
	t.Helper()
	if x.Way == api.Leaf {
		if len(l) != 1 || l[0] != (api.Place{Pane: x.Pane, R: r}) {
			t.Errorf("pane %d: %v, want %v", x.Pane, l, r)
		}
		return
	}
	turn := func(r api.Rect) api.Rect { return r } // as if all were side by side
	if x.Way == api.Column {
		turn = turned
	}
	all := 0
	for _, k := range x.Kids {
		all += k.Size
	}
	full := turn(r)
	left := full.W - leastAlong(x, x.Way)
	at, sizes, given := full.X, 0, 0
	for i, k := range x.Kids {
		n := len(order(k))
		box := turn(around(l[:n]))
		if box.X != at || box.Y != full.Y || box.H != full.H {
			t.Errorf("%s in %v: part %d is %v", show(x), full, i, box)
		}
		sizes += k.Size
		given += box.W - leastAlong(k, x.Way)
		if given*all > left*sizes || (given+1)*all <= left*sizes {
			t.Errorf("%s in %v: %d of %d cells are given to the parts up to %d", show(x), full, given, left, i)
		}
		at += box.W + 1
		if i < len(x.Kids)-1 {
			a.paint(turn(api.Rect{X: at - 1, Y: full.Y, W: 1, H: full.H}))
		}
		parted(t, k, l[:n], turn(box), a)
		l = l[n:]
	}
	if at-1 != full.X+full.W {
		t.Errorf("%s in %v: its parts end at %d", show(x), full, at-1)
	}
}

// holdLay: are the panes told in order, and are all cells taken once, by one of them or by what lies between?
func holdLay(t *testing.T, x api.Split, w, h int) {
	t.Helper()
	l, e := Lay(x, w, h)
	var who []int
	for _, p := range l {
		who = append(who, p.Pane)
	}
	if e != api.OK || !slices.Equal(who, order(x)) {
		t.Fatalf("Lay of %s in %d times %d = %v, %d", show(x), w, h, l, e)
	}
	a := wall{w, make([]int, w*h)}
	for _, p := range l {
		if p.R.W < 1 || p.R.H < 1 || p.R.X < 0 || p.R.Y < 0 || p.R.X+p.R.W > w || p.R.Y+p.R.H > h {
			t.Fatalf("Lay of %s in %d times %d: %v", show(x), w, h, p)
		}
		a.paint(p.R)
	}
	parted(t, x, l, api.Rect{W: w, H: h}, a)
	if slices.Min(a.taken) != 1 || slices.Max(a.taken) != 1 {
		t.Errorf("Lay of %s in %d times %d: %v takes some cells not once", show(x), w, h, l)
	}
}

func TestLayFills(t *testing.T) {
	for _, x := range append(every(5), some()...) {
		leastW, leastH := leastAlong(x, api.Row), leastAlong(x, api.Column)
		for _, w := range []int{leastW, leastW + 1, leastW + 2, leastW + 7, 80, api.MaxWide - 1, api.MaxWide} {
			for _, h := range []int{leastH, leastH + 1, leastH + 3, 24, api.MaxHigh} {
				holdLay(t, x, w, max(h, leastH))
			}
		}
	}
}

// Few shapes, in each size that may be.
func TestLayEachSize(t *testing.T) {
	for _, text := range []string{"{1,2,3}", "[1*2,{2,3*5},4*9999]", "{1*3,[2,3]*2,4}"} {
		x := of(text)
		for w := leastAlong(x, api.Row); w <= api.MaxWide; w++ {
			for h := leastAlong(x, api.Column); h <= api.MaxHigh; h += 1 + w%3 {
				holdLay(t, x, w, h)
			}
		}
	}
}
