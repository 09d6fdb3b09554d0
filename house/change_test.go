package house

import (
	"fmt"
	"math"
	"reflect"
	"testing"

	"trellis/api"
)

// P14.2

func TestSession(t *testing.T) {
	for _, c := range []struct{ house, n, w, want string }{
		{"#1", "main", "first", "main:0,0 first=1/1/0 #2"},
		{"#1", "a", "a", "a:0,0 a=1/1/0 #2"},
		{"#7", "main", "first", "main:0,0 first=7/7/0 #8"},
		{"#9998", "main", "first", "main:0,0 first=9998/9998/0 #9999"},
		{"s:1,0 w={1,[2,3]*2}/2/3z v=4/4/0 @0:20x5 @0:1x1 #9", "t", "w", "s:1,0 w={1,[2,3]*2}/2/3z v=4/4/0 t:0,0 w=9/9/0 @0:20x5 @0:1x1 #10"},
		{sessions(3) + " @2:9x9 #5", "s", "s0", sessions(3) + " s:0,0 s0=5/5/0 @2:9x9 #6"},
		{"s:0,0 w=1/1/0 #2", "w", "w", "s:0,0 w=1/1/0 w:0,0 w=2/2/0 #3"},
	} {
		got, e := Session(of(c.house), c.n, c.w)
		is(t, fmt.Sprintf("Session(%s, %s, %s)", c.house, c.n, c.w), got, e, c.want)
	}
}

func TestSessionWrong(t *testing.T) {
	for _, c := range []struct {
		house, n, w string
		want        api.Errno
	}{
		{"#1", "", "w", api.ErrText}, {"#1", "n", "", api.ErrText}, {"#1", "a b", "w", api.ErrText}, {"#1", "n", "a b", api.ErrText}, {"#1", "\n", "\n", api.ErrText},
		{sessions(2) + " #3", "s0", "w", api.ErrTwice}, {sessions(2) + " #3", "s1", "w", api.ErrTwice},
		{sessions(4) + " #5", "s", "w", api.ErrFull},
		{"#9999", "s", "w", api.ErrFull}, {sessions(1) + " #9999", "s", "w", api.ErrFull},
		// two at once
		{sessions(2) + " #3", "s0", "", api.ErrText}, {sessions(4) + " #5", "", "w", api.ErrText}, {sessions(4) + " #5", "s", "", api.ErrText}, {"#9999", "", "w", api.ErrText}, {"#9999", "s", " ", api.ErrText},
		{sessions(4) + " #5", "s3", "w", api.ErrTwice}, {sessions(1) + " #9999", "s0", "w", api.ErrTwice},
		{sessions(4) + " #9999", "s", "w", api.ErrFull},
	} {
		got, e := Session(of(c.house), c.n, c.w)
		no(t, fmt.Sprintf("Session(%s, %q, %q)", c.house, c.n, c.w), got, e, c.want)
	}
}

func TestWindow(t *testing.T) {
	for _, c := range []struct {
		house   string
		session int
		n, want string
	}{
		{"s:0,0 w=1/1/0 #2", 0, "v", "s:1,0 w=1/1/0 v=2/2/0 #3"},
		{"s:0,0 w=1/1/0 #2", 0, "w", "s:1,0 w=1/1/0 w=2/2/0 #3"},
		{"s:0,0 w=1/1/0 #2", 0, "s", "s:1,0 w=1/1/0 s=2/2/0 #3"},
		{"s:0,1 w={1,2}/2/1z v=4/4/0 @0:9x9 #9", 0, "x", "s:2,0 w={1,2}/2/1z v=4/4/0 x=9/9/0 @0:9x9 #10"},
		{"s:1,0 w=1/1/0 v=2/2/0 #3", 0, "x", "s:2,1 w=1/1/0 v=2/2/0 x=3/3/0 #4"},
		{"s:1,1 w=1/1/0 v=2/2/0 #3", 0, "x", "s:2,1 w=1/1/0 v=2/2/0 x=3/3/0 #4"},
		{"s:3,2 " + windows(5, 1) + " #9", 0, "x", "s:5,3 " + windows(5, 1) + " x=9/9/0 #10"},
		{sessions(3) + " @1:9x9 #4", 0, "x", "s0:1,0 w0=1/1/0 x=4/4/0 s1:0,0 w1=2/2/0 s2:0,0 w2=3/3/0 @1:9x9 #5"},
		{sessions(3) + " @1:9x9 #4", 1, "x", "s0:0,0 w0=1/1/0 s1:1,0 w1=2/2/0 x=4/4/0 s2:0,0 w2=3/3/0 @1:9x9 #5"},
		{sessions(3) + " @1:9x9 #4", 2, "w0", "s0:0,0 w0=1/1/0 s1:0,0 w1=2/2/0 s2:1,0 w2=3/3/0 w0=4/4/0 @1:9x9 #5"},
		{"s:0,0 w=1/1/0 #9998", 0, "v", "s:1,0 w=1/1/0 v=9998/9998/0 #9999"},
		{sessions(4) + " #5", 3, "x", "s0:0,0 w0=1/1/0 s1:0,0 w1=2/2/0 s2:0,0 w2=3/3/0 s3:1,0 w3=4/4/0 x=5/5/0 #6"},
	} {
		got, e := Window(of(c.house), c.session, c.n)
		is(t, fmt.Sprintf("Window(%s, %d, %s)", c.house, c.session, c.n), got, e, c.want)
	}
}

func TestWindowWrong(t *testing.T) {
	full := "s:0,0 " + windows(6, 1)
	for _, c := range []struct {
		house   string
		session int
		n       string
		want    api.Errno
	}{
		{"#1", 0, "w", api.ErrWho}, {sessions(2) + " #3", -1, "w", api.ErrWho}, {sessions(2) + " #3", 2, "w", api.ErrWho}, {sessions(2) + " #3", math.MaxInt, "w", api.ErrWho}, {sessions(2) + " #3", math.MinInt, "w", api.ErrWho},
		{sessions(2) + " #3", 1, "", api.ErrText}, {sessions(2) + " #3", 1, "a b", api.ErrText}, {sessions(2) + " #3", 0, "\x1b", api.ErrText},
		{full + " #7", 0, "x", api.ErrFull}, {sessions(2) + " #9999", 1, "x", api.ErrFull},
		// two at once
		{sessions(2) + " #3", 2, "", api.ErrWho}, {full + " #7", 1, "x", api.ErrWho}, {sessions(2) + " #9999", -1, "x", api.ErrWho}, {"#9999", 0, "", api.ErrWho},
		{full + " #7", 0, " ", api.ErrText}, {sessions(2) + " #9999", 1, "", api.ErrText},
		{full + " #9999", 0, "x", api.ErrFull},
	} {
		got, e := Window(of(c.house), c.session, c.n)
		no(t, fmt.Sprintf("Window(%s, %d, %q)", c.house, c.session, c.n), got, e, c.want)
	}
}

func TestShow(t *testing.T) {
	for _, c := range []struct {
		from       string
		session, w int
		want       string
	}{
		{"s:0,0", 0, 1, "s:1,0"}, {"s:0,0", 0, 2, "s:2,0"}, {"s:0,1", 0, 1, "s:1,0"}, {"s:0,1", 0, 2, "s:2,0"}, {"s:1,2", 0, 0, "s:0,1"}, {"s:1,2", 0, 2, "s:2,1"}, {"s:2,2", 0, 0, "s:0,2"}, {"s:2,0", 0, 1, "s:1,2"},
		// the one that is Active
		{"s:0,0", 0, 0, "s:0,0"}, {"s:0,1", 0, 0, "s:0,1"}, {"s:1,2", 0, 1, "s:1,2"}, {"s:2,0", 0, 2, "s:2,0"},
	} {
		const rest = " w={1,2}/2/1z v=3/3/0 u=4/4/4 t:1,0 w=5/5/0 v=6/6/0 @0:9x9 @1:8x8 #9"
		got, e := Show(of(c.from+rest), c.session, c.w)
		is(t, fmt.Sprintf("Show(%s, %d, %d)", c.from+rest, c.session, c.w), got, e, c.want+rest)
	}
	const h = "s:0,0 w=1/1/0 v=2/2/0 t:1,0 w=3/3/0 v=4/4/0 #9999"
	got, e := Show(of(h), 1, 0)
	is(t, "Show of another session", got, e, "s:0,0 w=1/1/0 v=2/2/0 t:0,1 w=3/3/0 v=4/4/0 #9999")
	got, e = Show(of("s:0,0 "+windows(6, 1)+" #7"), 0, 5)
	is(t, "Show of the last of many", got, e, "s:5,0 "+windows(6, 1)+" #7")
}

func TestShowWrong(t *testing.T) {
	const h = "s:0,0 w=1/1/0 t:1,0 w=3/3/0 v=4/4/0 #5"
	for _, c := range []struct {
		house      string
		session, w int
	}{
		{"#1", 0, 0}, {h, -1, 0}, {h, 2, 0}, {h, math.MaxInt, 0}, {h, math.MinInt, 0},
		{h, 0, -1}, {h, 0, 1}, {h, 1, -1}, {h, 1, 2}, {h, 1, math.MaxInt}, {h, 1, math.MinInt}, {h, 2, 2}, {h, -1, -1}, {"#1", 0, -1},
	} {
		got, e := Show(of(c.house), c.session, c.w)
		no(t, fmt.Sprintf("Show(%s, %d, %d)", c.house, c.session, c.w), got, e, api.ErrWho)
	}
}

// P14.3

func TestCut(t *testing.T) {
	const row, column = api.Row, api.Column
	for _, c := range []struct {
		house     string
		pane, way int
		want      string
	}{
		{"s:0,0 w=1/1/0 #2", 1, row, "s:0,0 w={1,2}/2/1 #3"},
		{"s:0,0 w=1/1/0 #2", 1, column, "s:0,0 w=[1,2]/2/1 #3"},
		{"s:0,0 w=1*7/1/1z #2", 1, column, "s:0,0 w=[1,2]*7/2/1 #3"},
		{"s:0,0 w=5/5/0 #9998", 5, row, "s:0,0 w={5,9998}/9998/5 #9999"},
		// of several: the one that is Active, and others, which needn't be Before then
		{"s:0,0 w={1,2*3}/2/1 #3", 2, row, "s:0,0 w={1,2*3,3*3}/3/2 #4"},
		{"s:0,0 w={1,2*3}/2/1z #3", 1, row, "s:0,0 w={1,3,2*3}/3/2 #4"},
		{"s:0,0 w={1,2*3}/2/0z #3", 1, column, "s:0,0 w={[1,3],2*3}/3/2 #4"},
		{"s:0,0 w={1,2}/2/2 #9", 1, column, "s:0,0 w={[1,9],2}/9/2 #10"},
		{"s:0,0 w={" + panes(11, 1) + "}/3/4 #20", 11, row, "s:0,0 w={" + panes(11, 1) + ",20}/20/3 #21"},
		// a window that isn't shown, in another session
		{"s:1,0 w=1/1/0 v=2/2/0 t:0,1 w={3,4}/3/4z v={5,6}/5/6z @1:9x9 #7", 6, column, "s:1,0 w=1/1/0 v=2/2/0 t:0,1 w={3,4}/3/4z v={5,[6,7]}/7/5 @1:9x9 #8"},
		{"s:1,0 w=1/1/0 v=2/2/0z t:0,1 w={3,4}/3/4z v=5/5/0 @1:9x9 #7", 2, row, "s:1,0 w=1/1/0 v={2,7}/7/2 t:0,1 w={3,4}/3/4z v=5/5/0 @1:9x9 #8"},
	} {
		got, e := Cut(of(c.house), c.pane, c.way)
		is(t, fmt.Sprintf("Cut(%s, %d, %d)", c.house, c.pane, c.way), got, e, c.want)
	}
}

func TestCutWrong(t *testing.T) {
	full := "s:0,0 w={" + panes(12, 1) + "}/1/0 v=13/13/0"
	const h = "s:0,0 w={1,2}/1/0 t:0,0 w=4/4/0 #7"
	for _, c := range []struct {
		house     string
		pane, way int
		want      api.Errno
	}{
		{"#1", 1, api.Row, api.ErrWho}, {"#1", 0, api.Row, api.ErrWho}, {h, 3, api.Row, api.ErrWho}, {h, 0, api.Row, api.ErrWho}, {h, -1, api.Row, api.ErrWho}, {h, 7, api.Row, api.ErrWho}, {h, math.MaxInt, api.Row, api.ErrWho}, {h, math.MinInt, api.Row, api.ErrWho},
		{h, 1, api.Leaf, api.ErrRange}, {h, 4, 3, api.ErrRange}, {h, 2, -1, api.ErrRange}, {h, 2, math.MaxInt, api.ErrRange}, {h, 2, math.MinInt, api.ErrRange},
		{full + " #14", 1, api.Row, api.ErrFull}, {full + " #14", 12, api.Column, api.ErrFull},
		{full + " #9999", 13, api.Row, api.ErrFull}, {"s:0,0 w={1,2}/1/0 #9999", 2, api.Column, api.ErrFull},
		// two at once
		{h, 3, 0, api.ErrWho}, {full + " #14", 14, api.Row, api.ErrWho}, {full + " #9999", 14, api.Row, api.ErrWho}, {"#9999", 1, 0, api.ErrWho},
		{full + " #14", 1, 0, api.ErrRange}, {full + " #9999", 13, 3, api.ErrRange},
		{full + " #9999", 1, api.Row, api.ErrFull},
	} {
		got, e := Cut(of(c.house), c.pane, c.way)
		no(t, fmt.Sprintf("Cut(%s, %d, %d)", c.house, c.pane, c.way), got, e, c.want)
	}
}

// inWindow: a house with that window, others about it; what stands behind its name.
func inWindow(rest string) string {
	return "s:1,0 v={5,6}/6/5z w=" + rest + " u=7/7/7z t:0,0 w={8,9}/8/0z @0:20x5 @1:9x9 #10"
}

func TestPick(t *testing.T) {
	for _, c := range []struct {
		from string
		pane int
		want string
	}{
		// the one that is Active
		{"{1,[2,3]}/2/0", 2, "{1,[2,3]}/2/0"}, {"{1,[2,3]}/2/1", 2, "{1,[2,3]}/2/1"}, {"{1,[2,3]}/2/2", 2, "{1,[2,3]}/2/2"}, {"{1,[2,3]}/2/0z", 2, "{1,[2,3]}/2/0z"}, {"{1,[2,3]}/2/3z", 2, "{1,[2,3]}/2/3z"}, {"4/4/0z", 4, "4/4/0z"}, {"4/4/4", 4, "4/4/4"},
		// another
		{"{1,[2,3]}/2/0", 1, "{1,[2,3]}/1/2"}, {"{1,[2,3]}/2/1", 3, "{1,[2,3]}/3/2"}, {"{1,[2,3]}/2/1", 1, "{1,[2,3]}/1/2"}, {"{1,[2,3]}/2/2", 1, "{1,[2,3]}/1/2"}, {"{1,[2,3]}/2/0z", 3, "{1,[2,3]}/3/2"}, {"{1,[2,3]}/2/1z", 1, "{1,[2,3]}/1/2"},
	} {
		got, e := Pick(of(inWindow(c.from)), c.pane)
		is(t, fmt.Sprintf("Pick(%s, %d)", c.from, c.pane), got, e, inWindow(c.want))
	}
	got, e := Pick(of(sessions(2)+" u:0,0 w={5,6}/5/0 #9999"), 6)
	is(t, "Pick in the last session", got, e, sessions(2)+" u:0,0 w={5,6}/6/5 #9999")
}

func TestZoom(t *testing.T) {
	for _, c := range []struct {
		from string
		pane int
		want string
	}{
		// the one that is Active
		{"{1,[2,3]}/2/0", 2, "{1,[2,3]}/2/0z"}, {"{1,[2,3]}/2/1", 2, "{1,[2,3]}/2/1z"}, {"{1,[2,3]}/2/2", 2, "{1,[2,3]}/2/2z"}, {"{1,[2,3]}/2/0z", 2, "{1,[2,3]}/2/0"}, {"{1,[2,3]}/2/3z", 2, "{1,[2,3]}/2/3"}, {"4/4/0z", 4, "4/4/0"}, {"4/4/4", 4, "4/4/4z"},
		// another
		{"{1,[2,3]}/2/0", 1, "{1,[2,3]}/1/2z"}, {"{1,[2,3]}/2/1", 3, "{1,[2,3]}/3/2z"}, {"{1,[2,3]}/2/0z", 3, "{1,[2,3]}/3/2z"}, {"{1,[2,3]}/2/1z", 1, "{1,[2,3]}/1/2z"},
	} {
		got, e := Zoom(of(inWindow(c.from)), c.pane)
		is(t, fmt.Sprintf("Zoom(%s, %d)", c.from, c.pane), got, e, inWindow(c.want))
	}
}

// noPanes: numbers that no pane of inWindow("{1,[2,3]}/..") has.
var noPanes = []int{0, -1, 4, 10, 11, 10000, math.MaxInt, math.MinInt}

func TestNoPane(t *testing.T) {
	for name, call := range map[string]func(h api.House, pane int) (api.House, api.Errno){"Pick": Pick, "Zoom": Zoom, "Close": Close} {
		for _, pane := range noPanes {
			got, e := call(of(inWindow("{1,[2,3]}/2/0")), pane)
			no(t, fmt.Sprint(name, " ", pane), got, e, api.ErrWho)
		}
		got, e := call(of("#5"), 1)
		no(t, name+" in an empty house", got, e, api.ErrWho)
	}
}

// P14.5

func TestLook(t *testing.T) {
	for _, c := range []struct {
		house               string
		session, wide, high int
		want                string
	}{
		{sessions(1) + " #2", 0, 20, 5, sessions(1) + " @0:20x5 #2"},
		{sessions(1) + " #2", 0, 1, 60, sessions(1) + " @0:1x60 #2"},
		{sessions(1) + " #2", 0, 120, 1, sessions(1) + " @0:120x1 #2"},
		{sessions(4) + " @1:9x9 @3:8x8 #9999", 3, 120, 60, sessions(4) + " @1:9x9 @3:8x8 @3:120x60 #9999"},
		{sessions(4) + " @1:9x9 @3:8x8 @0:7x7 #5", 0, 1, 1, sessions(4) + " @1:9x9 @3:8x8 @0:7x7 @0:1x1 #5"},
		{"s:1,0 w={1,2}/2/1z v=3/3/0 #4", 0, 2, 3, "s:1,0 w={1,2}/2/1z v=3/3/0 @0:2x3 #4"},
	} {
		got, e := Look(of(c.house), c.session, c.wide, c.high)
		is(t, fmt.Sprintf("Look(%s, %d, %d, %d)", c.house, c.session, c.wide, c.high), got, e, c.want)
	}
}

func TestLookWrong(t *testing.T) {
	full := sessions(2) + " @0:9x9 @0:9x9 @0:9x9 @0:9x9 #3"
	for _, c := range []struct {
		house               string
		session, wide, high int
		want                api.Errno
	}{
		{"#1", 0, 9, 9, api.ErrWho}, {sessions(2) + " #3", -1, 9, 9, api.ErrWho}, {sessions(2) + " #3", 2, 9, 9, api.ErrWho}, {sessions(2) + " #3", math.MaxInt, 9, 9, api.ErrWho}, {sessions(2) + " #3", math.MinInt, 9, 9, api.ErrWho},
		{sessions(2) + " #3", 1, 0, 9, api.ErrSize}, {sessions(2) + " #3", 1, 121, 9, api.ErrSize}, {sessions(2) + " #3", 1, 9, 0, api.ErrSize}, {sessions(2) + " #3", 1, 9, 61, api.ErrSize}, {sessions(2) + " #3", 1, -1, 9, api.ErrSize}, {sessions(2) + " #3", 1, 9, -1, api.ErrSize}, {sessions(2) + " #3", 1, math.MaxInt, math.MinInt, api.ErrSize},
		{full, 1, 9, 9, api.ErrFull},
		// two at once
		{sessions(2) + " #3", 2, 0, 9, api.ErrWho}, {full, 2, 9, 9, api.ErrWho}, {full, -1, 0, 0, api.ErrWho},
		{full, 1, 0, 9, api.ErrSize}, {full, 1, 9, 61, api.ErrSize},
	} {
		got, e := Look(of(c.house), c.session, c.wide, c.high)
		no(t, fmt.Sprintf("Look(%s, %d, %d, %d)", c.house, c.session, c.wide, c.high), got, e, c.want)
	}
}

func TestSize(t *testing.T) {
	for _, c := range []struct {
		viewers       string
		session, w, h int
	}{
		{"", 0, 0, 0}, {"", 1, 0, 0}, {"@1:9x9", 0, 0, 0}, {"@0:9x9 @0:8x8 @2:9x9", 1, 0, 0},
		{"@0:20x5", 0, 20, 4}, {"@0:120x60", 0, 120, 59}, {"@1:7x3", 1, 7, 2}, {"@2:1x1", 2, 1, 1}, {"@2:7x1", 2, 7, 1}, {"@2:7x2", 2, 7, 1}, {"@2:7x3", 2, 7, 2},
		{"@0:9x20", 0, 9, 19}, {"@0:1x60", 0, 1, 59}, {"@0:9x20 @0:8x30", 0, 8, 19}, {"@0:8x30 @0:9x20", 0, 8, 19}, {"@0:9x30 @0:8x20", 0, 8, 19}, {"@0:30x9 @0:9x30", 0, 9, 8},
		{"@0:20x5 @0:10x9", 0, 10, 4}, {"@0:10x9 @0:20x5", 0, 10, 4}, {"@0:10x5 @0:20x9", 0, 10, 4}, {"@0:20x9 @0:10x5", 0, 10, 4}, {"@0:20x9 @0:20x9", 0, 20, 8},
		{"@0:20x9 @0:1x20 @0:30x1", 0, 1, 1}, {"@0:20x9 @0:9x20 @0:30x2", 0, 9, 1}, {"@0:30x30 @0:20x40 @0:40x10 @0:25x25", 0, 20, 9},
		{"@1:1x1 @0:20x9 @2:1x1 @0:30x8", 0, 20, 7}, {"@0:20x9 @1:1x1 @2:1x1 @0:30x8", 0, 20, 7}, {"@1:1x1 @0:20x9 @2:1x1 @0:30x8", 2, 1, 1}, {"@1:1x1 @1:3x2 @2:9x9 @1:1x4", 2, 9, 8},
	} {
		w, h, e := Size(of(sessions(3)+" "+c.viewers+" #4"), c.session)
		if w != c.w || h != c.h || e != api.OK {
			t.Errorf("Size of %d with %s = %d, %d, %d; want %d, %d", c.session, c.viewers, w, h, e, c.w, c.h)
		}
	}
	for _, session := range []int{-1, 3, 4, math.MaxInt, math.MinInt} {
		if w, h, e := Size(of(sessions(3)+" @0:9x9 #4"), session); w != 0 || h != 0 || e != api.ErrWho {
			t.Errorf("Size of %d = %d, %d, %d", session, w, h, e)
		}
	}
	if w, h, e := Size(of("#1"), 0); w != 0 || h != 0 || e != api.ErrWho {
		t.Errorf("Size in an empty house = %d, %d, %d", w, h, e)
	}
}

func TestPanes(t *testing.T) {
	for _, c := range []struct {
		house string
		want  []int
	}{
		{"#1", nil}, {"#9999", nil},
		{"s:0,0 w=1/1/0 #2", []int{1}},
		{"s:0,0 w={3,[1,2]}/1/0 #4", []int{3, 1, 2}},
		{"s:1,0 w={9,[7,2]}/7/0 v=5/5/0 u=[4,{3,8}]/8/0z t:0,0 w=6/6/0 v={10,1}/1/10 @1:9x9 #11", []int{9, 7, 2, 5, 4, 3, 8, 6, 10, 1}},
		{sessions(4) + " #5", []int{1, 2, 3, 4}},
	} {
		got, e := Panes(of(c.house))
		if len(got) == 0 {
			got = nil
		}
		if e != api.OK || !reflect.DeepEqual(got, c.want) {
			t.Errorf("Panes(%s) = %v, %d; want %v", c.house, got, e, c.want)
		}
	}
}
