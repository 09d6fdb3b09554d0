package house

import (
	"fmt"
	"testing"
)

// P14.4

func TestClosePane(t *testing.T) {
	for _, c := range []struct {
		from string
		pane int
		want string
	}{
		// the one that is Active, with Before another
		{"{1,2}/1/2", 1, "2/2/0"}, {"{1,2}/2/1", 2, "1/1/0"}, {"{1,2}/1/2z", 1, "2/2/0"},
		{"{1,2,3}/1/3", 1, "{2,3}/3/0"}, {"{1,2,3}/2/3", 2, "{1,3}/3/0"}, {"{1,2,3}/2/1", 2, "{1,3}/1/0"}, {"{1,2,3}/3/1", 3, "{1,2}/1/0"}, {"{1,2,3}/3/1z", 3, "{1,2}/1/0"},
		{"{1,[2,3]*4}/1/3", 1, "[2,3]/3/0"}, {"{1,[2,3]*4}/2/1", 2, "{1,3*4}/1/0"},
		// with Before 0: the first, one between, the last
		{"{1,2}/1/0", 1, "2/2/0"}, {"{1,2}/2/0", 2, "1/1/0"}, {"{1,2}/2/0z", 2, "1/1/0"},
		{"{1,2,3}/1/0", 1, "{2,3}/2/0"}, {"{1,2,3}/2/0", 2, "{1,3}/1/0"}, {"{1,2,3}/3/0", 3, "{1,2}/2/0"}, {"{1,2,3,4}/3/0", 3, "{1,2,4}/2/0"}, {"{3,1,4,2}/3/0", 3, "{1,4,2}/1/0"},
		{"{1,[2,3]}/2/0", 2, "{1,3}/1/0"}, {"{[1,2],3}/3/0", 3, "[1,2]/2/0"}, {"{[1,2],3}/2/0z", 2, "{1,3}/1/0"}, {"{[3,1],[4,2]}/4/0", 4, "{[3,1],2}/1/0"}, {"{[3,1],[4,2]}/3/0", 3, "{1,[4,2]}/1/0"},
		// which is Before, too
		{"{1,2,3}/1/1", 1, "{2,3}/2/0"}, {"{1,2,3}/2/2", 2, "{1,3}/1/0"}, {"{1,2,3}/3/3z", 3, "{1,2}/2/0"},
		// one that is Before
		{"{1,2}/1/2", 2, "1/1/0"}, {"{1,2}/2/1z", 1, "2/2/0"}, {"{1,2,3}/1/2", 2, "{1,3}/1/0"}, {"{1,2,3}/3/1z", 1, "{2,3}/3/0"}, {"{1,[2,3]*4}/1/3", 3, "{1,2*4}/1/0"},
		// one that is neither
		{"{1,2}/1/0", 2, "1/1/0"}, {"{1,2}/1/1z", 2, "1/1/1"}, {"{1,2,3}/1/2", 3, "{1,2}/1/2"}, {"{1,2,3}/3/2z", 1, "{2,3}/3/2"}, {"{1,2,3}/2/0z", 1, "{2,3}/2/0"}, {"{1,2,3}/3/3", 2, "{1,3}/3/3"}, {"{1,[2,{3,4}*5]*6}/4/1z", 2, "{1,3,4}/4/1"},
	} {
		got, e := Close(of(inWindow(c.from)), c.pane)
		is(t, fmt.Sprintf("Close(%s, %d)", c.from, c.pane), got, e, inWindow(c.want))
	}
}

// With the only pane of it a window goes.
func TestCloseWindow(t *testing.T) {
	all := []string{"w=1/1/0", "v={2,3}/3/2z", "u=4/4/0z", "x=5/5/5"}
	for _, c := range []struct {
		from string
		many int // of windows there are
		pane int
		want string
		gone int
	}{
		// Active, with Before it: the one ahead, of the first the second
		{"0,0", 4, 1, "0,0", 0}, {"2,2", 4, 4, "1,1", 2}, {"3,3", 4, 5, "2,2", 3}, {"0,0", 3, 1, "0,0", 0}, {"2,2", 3, 4, "1,1", 2}, {"0,0", 2, 1, "0,0", 0},
		// with Before another
		{"0,1", 4, 1, "0,0", 0}, {"0,2", 4, 1, "1,1", 0}, {"0,3", 4, 1, "2,2", 0}, {"2,0", 4, 4, "0,0", 2}, {"2,1", 4, 4, "1,1", 2}, {"2,3", 4, 4, "2,2", 2}, {"3,0", 4, 5, "0,0", 3}, {"3,2", 4, 5, "2,2", 3}, {"0,1", 2, 1, "0,0", 0},
		// Before, and not Active
		{"1,0", 4, 1, "0,0", 0}, {"3,0", 4, 1, "2,2", 0}, {"0,2", 4, 4, "0,0", 2}, {"1,2", 4, 4, "1,1", 2}, {"3,2", 4, 4, "2,2", 2}, {"0,3", 4, 5, "0,0", 3}, {"2,3", 4, 5, "2,2", 3}, {"1,0", 2, 1, "0,0", 0},
		// neither
		{"1,1", 4, 1, "0,0", 0}, {"2,3", 4, 1, "1,2", 0}, {"3,1", 4, 1, "2,0", 0}, {"0,0", 4, 4, "0,0", 2}, {"0,1", 4, 4, "0,1", 2}, {"1,3", 4, 4, "1,2", 2}, {"3,0", 4, 4, "2,0", 2}, {"3,3", 4, 4, "2,2", 2}, {"0,2", 4, 5, "0,2", 3}, {"2,1", 4, 5, "2,1", 3}, {"1,1", 2, 1, "0,0", 0},
	} {
		text := func(counts string, without int) string {
			s := "t:0,0 w={8,9}/8/0z s:" + counts
			for i, w := range all[:c.many] {
				if i != without {
					s += " " + w
				}
			}
			return s + " r:1,0 w=6/6/0 v=7/7/0 @1:20x5 @2:9x9 @0:8x8 #10"
		}
		from := text(c.from, -1)
		got, e := Close(of(from), c.pane)
		is(t, fmt.Sprintf("Close(%s, %d)", from, c.pane), got, e, text(c.want, c.gone))
	}
}

// With its only window a session goes, and its viewers.
func TestCloseSession(t *testing.T) {
	const a, b, c, d = "a:0,0 w=1/1/0", "b:1,0 w=2/2/0 v={3,4}/3/0z", "c:0,0 w=5/5/5z", "d:0,0 w=6/6/0"
	for _, x := range []struct {
		house string
		pane  int
		want  string
	}{
		// the last session
		{a + " #2", 1, "#2"}, {a + " @0:9x9 #2", 1, "#2"}, {a + " @0:9x9 @0:8x8 @0:7x7 @0:6x6 #9999", 1, "#9999"},
		// the first, one between, the last; nobody looks
		{a + " " + b + " " + c + " #7", 1, b + " " + c + " #7"}, {a + " " + b + " " + c + " #7", 5, a + " " + b + " #7"}, {d + " " + c + " " + a + " " + b + " #7", 5, d + " " + a + " " + b + " #7"},
		// viewers of it alone, of others alone
		{a + " " + b + " " + c + " @2:9x9 @2:8x8 #7", 5, a + " " + b + " #7"}, {a + " " + b + " @0:9x9 #7", 1, b + " #7"},
		{a + " " + b + " " + c + " @0:9x9 @1:8x8 #7", 5, a + " " + b + " @0:9x9 @1:8x8 #7"}, {a + " " + b + " " + c + " @1:9x9 @2:8x8 @1:7x7 #7", 1, b + " " + c + " @0:9x9 @1:8x8 @0:7x7 #7"},
		// of both: those that stay count anew, in order
		{d + " " + c + " " + a + " " + b + " @0:1x1 @1:2x2 @2:3x3 @3:4x4 #7", 5, d + " " + a + " " + b + " @0:1x1 @1:3x3 @2:4x4 #7"},
		{d + " " + c + " " + a + " " + b + " @0:1x1 @1:2x2 @2:3x3 @3:4x4 #7", 6, c + " " + a + " " + b + " @0:2x2 @1:3x3 @2:4x4 #7"},
		{b + " " + c + " " + a + " " + d + " @3:1x1 @2:2x2 @1:3x3 @0:4x4 #7", 6, b + " " + c + " " + a + " @2:2x2 @1:3x3 @0:4x4 #7"},
		{a + " " + c + " @1:1x1 @0:2x2 @1:3x3 @0:4x4 #7", 1, c + " @0:1x1 @0:3x3 #7"}, {a + " " + c + " @1:1x1 @0:2x2 @1:3x3 @0:4x4 #7", 5, a + " @0:2x2 @0:4x4 #7"},
	} {
		got, e := Close(of(x.house), x.pane)
		is(t, fmt.Sprintf("Close(%s, %d)", x.house, x.pane), got, e, x.want)
	}
}

// A pane that isn't the only one takes nothing with it, though its window is the only one of its session.
func TestCloseStays(t *testing.T) {
	got, e := Close(of("s:0,0 w={1,2}/1/0 t:0,0 w=3/3/0 @0:9x9 @1:8x8 #4"), 1)
	is(t, "Close of one of two", got, e, "s:0,0 w=2/2/0 t:0,0 w=3/3/0 @0:9x9 @1:8x8 #4")
	got, e = Close(got, 2)
	is(t, "Close of the other", got, e, "t:0,0 w=3/3/0 @0:8x8 #4")
	got, e = Close(got, 3)
	is(t, "Close of the last", got, e, "#4")
}
