package compose

import (
	"fmt"
	"math"
	"reflect"
	"slices"
	"strings"
	"testing"

	"trellis/api"
)

// noFrame: is that the error, and nothing else?
func noFrame(t *testing.T, what string, g api.Grid, e, want api.Errno) {
	t.Helper()
	if e != want || !reflect.DeepEqual(g, api.Grid{}) {
		t.Errorf("%s: %v, %d; want %d", what, g, e, want)
	}
}

func noView(t *testing.T, what string, g api.Grid, x, y int, e, want api.Errno) {
	t.Helper()
	if e != want || !reflect.DeepEqual(g, api.Grid{}) || x != 0 || y != 0 {
		t.Errorf("%s: %v, %d, %d, %d; want %d", what, g, x, y, e, want)
	}
}

// flawed splits, and what is wrong with them.
func flawed() []struct {
	x    api.Split
	want api.Errno
} {
	leaf := func(pane, size int) api.Split { return api.Split{Pane: pane, Size: size} }
	row := func(kids ...api.Split) api.Split { return api.Split{Way: api.Row, Size: 1, Kids: kids} }
	var thirteen []api.Split
	for i := range api.MaxPanes + 1 {
		thirteen = append(thirteen, leaf(i+1, 1))
	}
	deep := leaf(1, 1)
	for range 100000 {
		deep = row(deep)
	}
	return []struct {
		x    api.Split
		want api.Errno
	}{
		{api.Split{}, api.ErrRange}, {leaf(1, 0), api.ErrRange}, {leaf(1, 10000), api.ErrRange}, {leaf(0, 1), api.ErrRange}, {leaf(10000, 1), api.ErrRange}, {leaf(math.MinInt, 1), api.ErrRange},
		{api.Split{Pane: 1, Size: 1, Kids: []api.Split{leaf(2, 1)}}, api.ErrForm}, {row(), api.ErrForm}, {row(leaf(1, 1)), api.ErrForm}, {deep, api.ErrForm}, {row(leaf(1, 1), row(leaf(2, 1), leaf(3, 1))), api.ErrForm}, {api.Split{Way: 3, Size: 1, Kids: []api.Split{leaf(1, 1), leaf(2, 1)}}, api.ErrForm},
		{row(leaf(1, 1), leaf(1, 1)), api.ErrTwice}, {row(thirteen...), api.ErrMany},
	}
}

// Frame's errors, those of which several hold at once too: the split's, the size, the styles, the pane.
func TestFrameWrong(t *testing.T) {
	badLook := api.Style{Fore: -1}
	for _, f := range flawed() {
		for _, size := range [][2]int{{9, 9}, {0, 0}, {121, 61}} {
			for _, active := range []int{1, 0, 99} {
				g, e := Frame(f.x, size[0], size[1], active, look, lit)
				noFrame(t, fmt.Sprintf("%v, active %d", size, active), g, e, f.want)
				g, e = Frame(f.x, size[0], size[1], active, badLook, badLook)
				noFrame(t, fmt.Sprintf("%v, active %d, no style", size, active), g, e, f.want)
			}
		}
	}
	for _, c := range []struct {
		split string
		w, h  int
	}{
		{"1", 0, 1}, {"1", 1, 0}, {"1", -1, 5}, {"1", 5, -1}, {"1", 121, 1}, {"1", 1, 61}, {"1", 121, 61}, {"1", math.MaxInt, 1}, {"1", 1, math.MinInt},
		{"{1,2}", 2, 1}, {"{1,2}", 121, 1}, {"[1,2]", 1, 2}, {"[1,2]", 1, 61}, {"{1,[2,3]}", 3, 2}, {"{1,[2,3]}", 2, 3}, {"{1,2,3,4,5,6,7,8,9,10,11,12}", 22, 60}, {"[1,2,3,4,5,6,7,8,9,10,11,12]", 120, 22},
	} {
		for _, active := range []int{1, 0, 99} {
			for _, s := range []api.Style{{}, badLook} {
				g, e := Frame(of(c.split), c.w, c.h, active, s, s)
				noFrame(t, fmt.Sprintf("%s in %d times %d, active %d, %v", c.split, c.w, c.h, active, s), g, e, api.ErrSize)
			}
		}
	}
}

func TestFrameNoStyle(t *testing.T) {
	for _, s := range []api.Style{{Fore: -1}, {Fore: 257}, {Back: -1}, {Back: 257}, {Bits: -1}, {Bits: 128}, {Fore: math.MinInt}, {Back: math.MaxInt}, {Fore: 3, Back: 3, Bits: math.MaxInt}} {
		for _, x := range []string{"1", "{1,2}", "{1,[2,3]}"} { // where no border has that style, too
			for _, active := range []int{1, 0, 4, math.MaxInt} {
				g, e := Frame(of(x), 9, 9, active, s, lit)
				noFrame(t, fmt.Sprintf("%s, look %v, active %d", x, s, active), g, e, api.ErrRange)
				g, e = Frame(of(x), 9, 9, active, look, s)
				noFrame(t, fmt.Sprintf("%s, lit %v, active %d", x, s, active), g, e, api.ErrRange)
			}
		}
	}
}

func TestFrameNoPane(t *testing.T) {
	for text, l := range map[string][]int{"1": {0, 2, -1, 9999, 10000, math.MaxInt, math.MinInt}, "{1*5,[3,4]*6}": {0, 2, 5, 6, -1, -3}, "7": {1, 0, 6, 8}} {
		for _, active := range l {
			g, e := Frame(of(text), 9, 9, active, look, lit)
			noFrame(t, fmt.Sprintf("%s, active %d", text, active), g, e, api.ErrWho)
		}
	}
}

// wrongGrids: screens whose grids aren't right, and what is wrong with them.
func wrongGrids() map[api.Errno]api.Screen {
	sized, ranged, formed := page(2, 2, "ab"), page(2, 2, "ab"), page(2, 2, "日")
	sized.G.W = 3
	ranged.G.Cells[3].S.Bits = 128
	formed.G.Cells[1].R = 'x'
	return map[api.Errno]api.Screen{api.ErrSize: sized, api.ErrRange: ranged, api.ErrForm: formed}
}

func TestViewMany(t *testing.T) {
	s := page(2, 2, "")
	for _, c := range []struct {
		panes   []int
		screens []api.Screen
	}{
		{nil, []api.Screen{s}}, {[]int{1}, nil}, {[]int{1}, []api.Screen{s, s}}, {[]int{1, 2}, []api.Screen{s}}, {[]int{1, 2, 3}, []api.Screen{}}, {make([]int, 5000), make([]api.Screen, 4999)},
	} {
		for _, x := range []api.Split{of("1"), of("{1,2}"), {}} {
			for _, size := range [][2]int{{9, 9}, {0, 0}, {121, 61}} {
				for _, zoom := range []bool{false, true} {
					for _, active := range []int{1, 0} {
						g, cx, cy, e := View(x, zoom, active, c.panes, c.screens, size[0], size[1], "")
						noView(t, fmt.Sprintf("%d panes, %d screens, %v", len(c.panes), len(c.screens), size), g, cx, cy, e, api.ErrMany)
					}
				}
			}
		}
	}
}

// The size is looked at ahead of the split, the pane and the screens.
func TestViewSize(t *testing.T) {
	for _, size := range [][2]int{{0, 2}, {-1, 2}, {121, 2}, {1, 1}, {1, 0}, {1, -1}, {1, 61}, {120, 61}, {121, 60}, {9, 1}, {0, 0}, {math.MinInt, 9}, {math.MaxInt, 9}, {9, math.MinInt}, {9, math.MaxInt}, {math.MinInt, math.MinInt}} {
		for _, zoom := range []bool{false, true} {
			for _, x := range []api.Split{of("1"), of("{1,2}"), {}, {Size: 1, Way: 7}} {
				for _, active := range []int{1, 0, 10000} {
					g, cx, cy, e := View(x, zoom, active, []int{1, 2}, []api.Screen{page(2, 2, ""), {}}, size[0], size[1], "")
					noView(t, fmt.Sprintf("%v, zoom %t, active %d", size, zoom, active), g, cx, cy, e, api.ErrSize)
				}
			}
		}
	}
}

// Frame's errors are told ahead of those of the screens; of a zoomed window the split isn't looked at.
func TestViewFrameWrong(t *testing.T) {
	panes, screens := []int{1}, []api.Screen{page(2, 2, "ab")}
	for _, f := range flawed() {
		for _, active := range []int{1, 0, 99} {
			g, cx, cy, e := View(f.x, false, active, nil, nil, 30, 30, "")
			noView(t, "a wrong split", g, cx, cy, e, f.want)
		}
		g, _, _, e := View(f.x, true, 1, panes, screens, 2, 2, "")
		if e != api.OK || runesOf(g) != "ab/  " {
			t.Errorf("zoomed, of a split that is %d: %d, %s", f.want, e, runesOf(g))
		}
	}
	for _, c := range []struct {
		split string
		w, h  int
	}{{"{1,2}", 2, 2}, {"[1,2]", 1, 3}, {"{1,[2,3]}", 3, 3}, {"{1,2,3,4,5,6,7,8,9,10,11,12}", 22, 60}, {"[1,2,3,4,5,6,7,8,9,10,11,12]", 120, 23}} {
		for _, active := range []int{1, 0} {
			g, cx, cy, e := View(of(c.split), false, active, panes, screens, c.w, c.h, "")
			noView(t, fmt.Sprintf("%s in %d times %d", c.split, c.w, c.h), g, cx, cy, e, api.ErrSize)
		}
		g, _, _, e := View(of(c.split), true, 1, panes, screens, c.w, c.h, "")
		if e != api.OK || g.W != c.w || g.H != c.h {
			t.Errorf("%s in %d times %d, zoomed: %d", c.split, c.w, c.h, e)
		}
	}
	for _, active := range []int{2, 0, -1, 10000, math.MaxInt, math.MinInt} {
		g, cx, cy, e := View(of("{1,3}"), false, active, []int{1, 2}, []api.Screen{{}, {}}, 9, 9, "")
		noView(t, fmt.Sprintf("active %d", active), g, cx, cy, e, api.ErrWho)
		if active == 2 { // zoomed, it may be another's
			continue
		}
		g, cx, cy, e = View(of("{1,3}"), true, active, []int{1, 2, active}, []api.Screen{{}, {}, {}}, 9, 9, "")
		noView(t, fmt.Sprintf("active %d, zoomed", active), g, cx, cy, e, api.ErrRange)
	}
}

// Pane by pane, in the split's order: it has no screen, or one whose grid isn't right.
func TestViewScreens(t *testing.T) {
	right := page(2, 2, "ab")
	wrong := wrongGrids()
	size, ranged, form := wrong[api.ErrSize], wrong[api.ErrRange], wrong[api.ErrForm]
	for _, c := range []struct {
		split   string
		zoom    bool
		active  int
		panes   []int
		screens []api.Screen
		want    api.Errno
	}{
		{"1", false, 1, nil, nil, api.ErrWho}, {"1", true, 1, nil, nil, api.ErrWho}, {"1", false, 1, []int{2, 0, -1, 11}, []api.Screen{right, right, right, right}, api.ErrWho}, {"{1,2}", true, 2, []int{1}, []api.Screen{right}, api.ErrWho}, {"{1,2}", false, 1, []int{1}, []api.Screen{right}, api.ErrWho}, {"{1,2}", false, 1, []int{2}, []api.Screen{right}, api.ErrWho}, {"{1,2}", false, 2, []int{1, 3}, []api.Screen{right, right}, api.ErrWho},
		{"1", false, 1, []int{1}, []api.Screen{{}}, api.ErrSize}, {"1", false, 1, []int{1}, []api.Screen{size}, api.ErrSize}, {"1", false, 1, []int{1}, []api.Screen{ranged}, api.ErrRange}, {"1", true, 1, []int{1}, []api.Screen{form}, api.ErrForm}, {"1", false, 1, []int{1, 1}, []api.Screen{form, right}, api.ErrForm},
		{"{1,2}", false, 1, []int{1, 2}, []api.Screen{right, ranged}, api.ErrRange}, {"{1,2}", false, 1, []int{2, 1}, []api.Screen{right, ranged}, api.ErrRange}, {"{1,2}", false, 2, []int{2, 1, 2}, []api.Screen{form, right, right}, api.ErrForm},
		// of several panes the first in the split
		{"{1,2}", false, 1, []int{1, 2}, []api.Screen{ranged, form}, api.ErrRange}, {"{2,1}", false, 1, []int{1, 2}, []api.Screen{ranged, form}, api.ErrForm}, {"{1,2}", false, 2, []int{2, 1}, []api.Screen{ranged, form}, api.ErrForm}, {"{3,[2,1]}", false, 1, []int{1, 2, 3}, []api.Screen{ranged, form, right}, api.ErrForm}, {"{[3,2],1}", false, 1, []int{1, 2, 3}, []api.Screen{ranged, form, size}, api.ErrSize},
		{"{1,2}", false, 2, []int{2}, []api.Screen{form}, api.ErrWho}, {"{2,1}", false, 2, []int{2}, []api.Screen{form}, api.ErrForm}, {"{1,[2,3]}", false, 3, []int{1, 3}, []api.Screen{right, form}, api.ErrWho}, {"{1,[3,2]}", false, 1, []int{1, 3}, []api.Screen{right, form}, api.ErrForm}, {"{1,[3,2]}", false, 3, []int{1, 2}, []api.Screen{size, right}, api.ErrSize},
	} {
		g, x, y, e := View(of(c.split), c.zoom, c.active, c.panes, c.screens, 9, 9, strings.Repeat("s", 9))
		noView(t, fmt.Sprintf("View(%s, %t, %d) of %v", c.split, c.zoom, c.active, c.panes), g, x, y, e, c.want)
	}
}

// P2

// withRoom: l, with room behind it, in which something stands.
func withRoom[T any](l []T, junk T) []T {
	out := append(slices.Clone(l), junk, junk)
	return out[:len(l)]
}

// snapshot: l, and what stands behind it.
func snapshot[T any](l []T) string { return fmt.Sprint(len(l), cap(l), l[:cap(l)]) }

func roomy(x api.Split) api.Split {
	for i, kid := range x.Kids {
		x.Kids[i] = roomy(kid)
	}
	x.Kids = withRoom(x.Kids, api.Split{Way: 77})
	return x
}

func roomyScreens(l []api.Screen) []api.Screen {
	for i := range l {
		l[i].G.Cells = withRoom(l[i].G.Cells, api.Cell{R: 'J'})
		l[i].Tabs = withRoom(l[i].Tabs, true)
		l[i].Gone = withRoom([][]api.Cell{withRoom([]api.Cell{{R: 'g'}}, api.Cell{R: 'J'})}, nil)
	}
	return withRoom(l, api.Screen{X: 77})
}

// scribble over g, and over the room behind its cells.
func scribble(g api.Grid) {
	for i := range g.Cells[:cap(g.Cells)] {
		g.Cells[:cap(g.Cells)][i] = api.Cell{R: 'S', S: api.Style{Fore: 77}}
	}
}

// No call changes what it was handed, or what stands behind its lists; what it answers is new memory, and it answers the same again.
func TestOnlyRead(t *testing.T) {
	for _, text := range []string{"1", "{1,2}", "{1,[2,3]*2}", "[{1,2},3]"} {
		x := roomy(of(text))
		panes := withRoom([]int{3, 2, 1}, 1)
		screens := roomyScreens([]api.Screen{page(9, 8, "three"), page(1, 1, "2"), page(4, 3, "日本")})
		shot := func() string {
			return fmt.Sprint(x) + snapshot(x.Kids) + snapshot(panes) + snapshot(screens) + cellRoom(screens)
		}
		before := shot()
		for _, w := range []int{1, 4, 9, 40} {
			for active := range 5 {
				for _, zoom := range []bool{false, true} {
					view, cx, cy, e := View(x, zoom, active, panes, screens, w, 8, "state")
					said := fmt.Sprint(view, cx, cy, e)
					scribble(view)
					again, cx, cy, e := View(x, zoom, active, panes, screens, w, 8, "state")
					if fmt.Sprint(again, cx, cy, e) != said {
						t.Errorf("View of %s, %d wide, active %d, zoom %t: %v, then %v", text, w, active, zoom, said, again)
					}
				}
				frame, e := Frame(x, w, 8, active, look, lit)
				said := fmt.Sprint(frame, e)
				scribble(frame)
				if again, e := Frame(x, w, 8, active, look, lit); fmt.Sprint(again, e) != said {
					t.Errorf("Frame of %s, %d wide, active %d: %v, then %v", text, w, active, said, again)
				}
			}
		}
		if after := shot(); after != before {
			t.Errorf("%s: what was handed in was\n%s\nand is\n%s", text, before, after)
		}
	}
}

// cellRoom: all cells of the screens, with what stands behind them.
func cellRoom(l []api.Screen) string {
	s := ""
	for _, x := range l {
		s += snapshot(x.G.Cells) + snapshot(x.Tabs) + snapshot(x.Gone)
	}
	return s
}
