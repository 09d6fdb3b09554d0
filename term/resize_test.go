package term

import (
	"slices"
	"strings"
	"testing"

	"trellis/api"
	"trellis/grid"
	"trellis/put"
)

// P11.3: Resize

// shrunk: the chapter's words, row by row.
func shrunk(x api.Term, w, h int) api.Term {
	x = own(x)
	for _, s := range []*api.Screen{&x.Main, &x.Other} {
		for s.G.H > h && s.Y >= h {
			s.Gone = append(s.Gone, s.G.Cells[:s.G.W])
			s.G, _ = grid.Part(s.G, api.Rect{Y: 1, W: s.G.W, H: s.G.H - 1})
			s.Y--
			if s.K.Y != 0 {
				s.K.Y--
			}
		}
		s.G, _ = grid.Resize(s.G, w, h)
		s.X, s.Y, s.K.X, s.K.Y = min(s.X, w-1), min(s.Y, h-1), min(s.K.X, w-1), min(s.K.Y, h-1)
		s.Late, s.Top, s.Bottom = false, 0, h-1
		for column := range w {
			if column >= len(s.Tabs) {
				s.Tabs = append(s.Tabs, column%8 == 0)
			}
		}
		s.Tabs = s.Tabs[:w]
	}
	return settled(x)
}

// resized: t of that size, which is right and as the chapter has it.
func resized(t *testing.T, x api.Term, w, h int) api.Term {
	t.Helper()
	got, e := Resize(x, w, h)
	expect(t, got, e, shrunk(x, w, h), "to %d, %d of %+v", w, h, x)
	return got
}

func TestResizeModel(t *testing.T) {
	for _, x := range terms() {
		for w := 1; w <= 18; w++ {
			for h := 1; h <= 6; h++ {
				resized(t, x, w, h)
			}
		}
	}
	for y := range 4 {
		for kept := range 4 {
			for other := range 4 {
				x := with(base(), func(x *api.Term) {
					x.Main.Y, x.Main.K.Y, x.Other.Y, x.Other.K.Y = y, kept, other, 3-kept
				})
				for h := 1; h <= 5; h++ {
					resized(t, x, 4, h)
					resized(t, alt(x), 3, h)
				}
			}
		}
	}
	for _, size := range [][2]int{{api.MaxWide, api.MaxHigh}, {1, 1}, {api.MaxWide, 1}, {1, api.MaxHigh}} {
		great := resized(t, at(base(), 3, 3), size[0], size[1])
		resized(t, great, 5, 3)
		resized(t, resized(t, fresh(t, api.MaxWide, api.MaxHigh), size[0], size[1]), 80, 24)
	}
}

// Which rows stay, and which go behind History, told by lines: Y above, at and below the new last row.
func TestResizeRows(t *testing.T) {
	for _, c := range []struct {
		y, w, h int
		want    string
	}{
		{1, 4, 4, "first/第二 > ab日|日cd|efgh|ijkl 2,1"},
		{0, 4, 2, "first/第二 > ab日|日cd 2,0"}, {1, 4, 2, "first/第二 > ab日|日cd 2,1"}, {2, 4, 2, "first/第二/ab日 > 日cd|efgh 2,1"}, {3, 4, 2, "first/第二/ab日/日cd > efgh|ijkl 2,1"},
		{0, 4, 1, "first/第二 > ab日 2,0"}, {1, 4, 1, "first/第二/ab日 > 日cd 2,0"}, {3, 4, 1, "first/第二/ab日/日cd/efgh > ijkl 2,0"},
		{2, 4, 3, "first/第二 > ab日|日cd|efgh 2,2"}, {3, 4, 3, "first/第二/ab日 > 日cd|efgh|ijkl 2,2"},
		{3, 4, 5, "first/第二 > ab日|日cd|efgh|ijkl| 2,3"}, {3, 6, 6, "first/第二 > ab日|日cd|efgh|ijkl|| 2,3"},
		{1, 3, 4, "first/第二 > ab|日c|efg|ijk 2,1"}, {1, 2, 4, "first/第二 > ab|日|ef|ij 1,1"}, {1, 1, 4, "first/第二 > a||e|i 0,1"}, {3, 1, 1, "first/第二/ab日/日cd/efgh > i 0,0"},
	} {
		x := with(base(), func(x *api.Term) { x.Main.Y, x.Other.Y = c.y, c.y })
		got := resized(t, x, c.w, c.h)
		if told(got) != c.want {
			t.Errorf("%d,%d from row %d: %s, want %s", c.w, c.h, c.y, told(got), c.want)
		}
		if other := resized(t, alt(x), c.w, c.h); !slices.Equal(linesOf(other.History), linesOf(got.History)) || !other.Alt {
			t.Errorf("%d,%d from row %d, the other one shown: %s", c.w, c.h, c.y, told(other))
		}
	}
}

// The other screen is resized by its own cursor, and what leaves it is lost.
func TestResizeTheOther(t *testing.T) {
	x := with(base(), func(x *api.Term) { x.Main.Y, x.Other.Y = 0, 3 })
	for _, from := range []api.Term{x, alt(x)} {
		got := resized(t, from, 3, 2)
		if sheetText(got.Main) != "ab|日c 2,0" || sheetText(got.Other) != "uv|123 1,1" || !slices.Equal(linesOf(got.History), []string{"first", "第二"}) || got.Alt != from.Alt {
			t.Errorf("%+v", got)
		}
	}
}

// A wide rune at the new edge leaves a blank in its look; what is new is blank, and has none.
func TestResizeEdges(t *testing.T) {
	got := resized(t, base(), 3, 4)
	if c := got.Main.G.Cells[2]; c != (api.Cell{R: ' ', S: green}) {
		t.Errorf("at the edge: %+v", c)
	}
	got = resized(t, base(), 5, 5)
	for _, i := range []int{4, 9, 19, 20, 24} {
		if c := got.Main.G.Cells[i]; c != (api.Cell{R: ' '}) {
			t.Errorf("cell %d: %+v", i, c)
		}
	}
}

// What is kept goes with its row, but not above the first one.
func TestResizePlaces(t *testing.T) {
	for _, c := range []struct{ y, kept, w, h, wantY, wantKept, wantX int }{
		{3, 3, 4, 4, 3, 3, 3}, {3, 3, 4, 2, 1, 1, 3}, {3, 2, 4, 2, 1, 0, 3}, {3, 1, 4, 2, 1, 0, 3}, {3, 0, 4, 2, 1, 0, 3}, {3, 0, 4, 1, 0, 0, 3},
		{0, 3, 4, 2, 0, 1, 3}, {1, 3, 4, 2, 1, 1, 3}, {0, 3, 4, 1, 0, 0, 3}, {2, 3, 4, 2, 1, 1, 3}, {0, 0, 2, 4, 0, 0, 1}, {3, 3, 9, 9, 3, 3, 3}, {2, 1, 1, 3, 2, 1, 0},
	} {
		x := with(base(), func(x *api.Term) {
			for _, s := range []*api.Screen{&x.Main, &x.Other} {
				s.X, s.Y, s.K.X, s.K.Y = 3, c.y, 3, c.kept
			}
		})
		got := resized(t, x, c.w, c.h)
		for _, s := range []api.Screen{got.Main, got.Other} {
			if s.X != c.wantX || s.Y != c.wantY || s.K.X != c.wantX || s.K.Y != c.wantKept || s.K.S != green || s.K.Modes != api.Origin {
				t.Errorf("%+v: %d,%d, kept %+v", c, s.X, s.Y, s.K)
			}
		}
	}
}

// Even of the same size nothing is late then, and all rows scroll; all else of the screens stays.
func TestResizeToTheSameSize(t *testing.T) {
	set := func(s *api.Screen) { s.X, s.Late, s.Top, s.Bottom, s.Modes = 3, true, 1, 2, allModes }
	x := with(base(), func(x *api.Term) {
		set(&x.Main)
		set(&x.Other)
	})
	want := with(x, func(x *api.Term) {
		for _, s := range []*api.Screen{&x.Main, &x.Other} {
			s.Late, s.Top, s.Bottom = false, 0, 3
		}
	})
	got, e := Resize(x, 4, 4)
	expect(t, got, e, want, "the same size")
	for _, in := range states() {
		got, e := Resize(reading(x, in), 4, 4)
		expect(t, got, e, reading(want, in), "the same size, within %+v", in)
	}
}

func TestResizeTabs(t *testing.T) {
	tabsOf := func(s api.Screen) []int {
		var out []int
		for column, is := range s.Tabs {
			if is {
				out = append(out, column)
			}
		}
		return out
	}
	x := after(t, fresh(t, 20, 2), "\x1b[9G\x1b[g\x1b[6G\x1bH\x1b[20G\x1bH\r\x1bH")
	for _, c := range []struct {
		w    int
		want []int
	}{
		{20, []int{0, 5, 16, 19}}, {1, []int{0}}, {5, []int{0}}, {6, []int{0, 5}}, {16, []int{0, 5}}, {17, []int{0, 5, 16}}, {19, []int{0, 5, 16}}, {24, []int{0, 5, 16, 19}}, {25, []int{0, 5, 16, 19, 24}}, {41, []int{0, 5, 16, 19, 24, 32, 40}},
	} {
		got := resized(t, x, c.w, 2)
		if !slices.Equal(tabsOf(got.Main), c.want) {
			t.Errorf("%d columns: %v", c.w, tabsOf(got.Main))
		}
		s, _ := put.New(c.w, 2)
		if !slices.Equal(tabsOf(got.Other), tabsOf(s)) {
			t.Errorf("%d columns of the other one: %v", c.w, tabsOf(got.Other))
		}
	}
	// Columns that went are new when they come again.
	if got := resized(t, resized(t, x, 4, 2), 20, 2); !slices.Equal(tabsOf(got.Main), []int{0, 8, 16}) {
		t.Errorf("to and fro: %v", tabsOf(got.Main))
	}
}

func TestResizeWhenHistoryIsFull(t *testing.T) {
	high := after(t, fresh(t, 3, api.MaxHigh), strings.Join(names("", 0, api.MaxHigh), "\r\n"))
	for _, c := range []struct{ h, ahead, kept, first, end int }{
		{10, 0, 0, 0, 50}, {9, 0, 0, 1, 51}, {1, 0, 0, 9, 59}, {12, 2, 2, 0, 48}, {11, 2, 1, 0, 49}, {60, 50, 50, 0, 0}, {59, 50, 49, 0, 1}, {1, 50, 0, 9, 59},
	} {
		x := with(high, func(x *api.Term) {
			for _, name := range names("x", 0, c.ahead) {
				x.History = append(x.History, rowOf(name, red))
			}
		})
		got := resized(t, x, 2, c.h)
		if want := slices.Concat(names("x", c.ahead-c.kept, c.ahead), names("", c.first, c.end)); !slices.Equal(linesOf(got.History), want) {
			t.Errorf("%d rows, behind %d: %q, want %q", c.h, c.ahead, linesOf(got.History), want)
		}
		if len(got.History) > c.kept && len(got.History[c.kept]) != 3 {
			t.Errorf("a row of History is cut: %+v", got.History[c.kept])
		}
	}
}
