package house

import (
	"fmt"
	"math"
	"reflect"
	"runtime/debug"
	"slices"
	"testing"

	"trellis/api"
)

// call that is made with a house: what it answers, in a list.
type call struct {
	name string
	make func(h api.House) []any
}

// all that was answered, as one.
func all(l ...any) []any { return l }

// calls that take a house, with arguments of which some are right and others not.
func calls() []call {
	l := []call{
		{"Check", func(h api.House) []any { return all(Check(h)) }},
		{"Panes", func(h api.House) []any { return all(Panes(h)) }},
	}
	for _, n := range []string{"", "s", "fresh", "\n"} {
		for _, w := range []string{"", "w"} {
			l = append(l, call{fmt.Sprintf("Session %q %q", n, w), func(h api.House) []any { return all(Session(h, n, w)) }})
		}
	}
	for _, session := range []int{0, 1, 3, -1, math.MaxInt} {
		l = append(l,
			call{fmt.Sprint("Size ", session), func(h api.House) []any { return all(Size(h, session)) }},
			call{fmt.Sprint("Look ", session), func(h api.House) []any { return all(Look(h, session, 9, 9)) }},
			call{fmt.Sprint("Look without size ", session), func(h api.House) []any { return all(Look(h, session, 0, 9)) }},
			call{fmt.Sprint("Window ", session), func(h api.House) []any { return all(Window(h, session, "w")) }},
			call{fmt.Sprint("Window without name ", session), func(h api.House) []any { return all(Window(h, session, "")) }})
		for _, w := range []int{0, 1, 5, -1, math.MinInt} {
			l = append(l, call{fmt.Sprint("Show ", session, w), func(h api.House) []any { return all(Show(h, session, w)) }})
		}
	}
	for _, pane := range []int{1, 2, 3, 5, 7, 8, 10, 0, -1, math.MinInt} {
		l = append(l,
			call{fmt.Sprint("Pick ", pane), func(h api.House) []any { return all(Pick(h, pane)) }},
			call{fmt.Sprint("Zoom ", pane), func(h api.House) []any { return all(Zoom(h, pane)) }},
			call{fmt.Sprint("Close ", pane), func(h api.House) []any { return all(Close(h, pane)) }})
		for _, way := range []int{api.Leaf, api.Row, api.Column} {
			l = append(l, call{fmt.Sprint("Cut ", pane, way), func(h api.House) []any { return all(Cut(h, pane, way)) }})
		}
	}
	return l
}

// refused: do all calls tell the error, ahead of those of what else they are given, and nothing else?
func refused(t *testing.T, name string, h api.House, want api.Errno) {
	t.Helper()
	for _, c := range calls() {
		l := c.make(h)
		if e := l[len(l)-1]; e != want {
			t.Errorf("%s of %s: %v, want %d", c.name, name, e, want)
		}
		for _, v := range l[:len(l)-1] {
			if !reflect.ValueOf(v).IsZero() {
				t.Errorf("%s of %s: %v", c.name, name, v)
			}
		}
	}
}

// Whatever a house is made of, no call goes down with it.
func TestRefusedGreat(t *testing.T) {
	const n = 20000
	defer debug.SetMaxStack(debug.SetMaxStack(1 << 20))
	deep := leaf(1)
	for i := range n {
		deep = api.Split{Way: api.Row + i%2, Size: 1, Kids: []api.Split{deep, leaf(1)}}
	}
	h := of("s:0,0 w=1/1/0 #2")
	h.Sessions[0].Windows[0].S = deep
	refused(t, "a deep split", h, api.ErrTwice)
	h = of("s:0,0 w=1/1/0 #2")
	h.Sessions[0].Windows = slices.Repeat(h.Sessions[0].Windows, n)
	refused(t, "windows", h, api.ErrMany)
	h.Sessions = slices.Repeat(h.Sessions, n)
	refused(t, "sessions", h, api.ErrMany)
	h = of("s:0,0 w=1/1/0 @0:9x9 #2")
	h.Viewers = slices.Repeat(h.Viewers, n)
	refused(t, "viewers", h, api.ErrMany)
	refused(t, "nothing", api.House{}, api.ErrRange)
}

// P2

// junk stands behind lists, and where tests write.
func junkSplit(n int) api.Split {
	return api.Split{Way: 77, Pane: n, Size: -n, Kids: []api.Split{{Way: n}}}
}

func junkWindow(n int) api.Window {
	return api.Window{Name: fmt.Sprint("junk", n), S: junkSplit(n), Active: n, Before: -n, Zoom: true}
}

func junkSession(n int) api.Session {
	return api.Session{Name: fmt.Sprint("junk", n), Windows: []api.Window{junkWindow(n)}, Active: n, Before: -n}
}

func junkViewer(n int) api.Viewer { return api.Viewer{Session: n, W: -n, H: -n} }

// withRoom: l, with room behind it, in which junk stands.
func withRoom[T any](l []T, junk func(int) T) []T {
	out := append(make([]T, 0, len(l)+3), l...)
	for i := range out[len(l):cap(out)] {
		out[:cap(out)][len(l)+i] = junk(i + 1)
	}
	return out
}

// roomy: h with room behind each list.
func roomy(h api.House) api.House {
	h.Viewers = withRoom(h.Viewers, junkViewer)
	h.Sessions = withRoom(h.Sessions, junkSession)
	for i := range h.Sessions {
		s := &h.Sessions[i]
		s.Windows = withRoom(s.Windows, junkWindow)
		for j := range s.Windows {
			s.Windows[j].S = roomySplit(s.Windows[j].S)
		}
	}
	return h
}

// roomySplit: x with room behind each list; leaves have some, too.
func roomySplit(x api.Split) api.Split {
	x.Kids = withRoom(x.Kids, junkSplit)
	for i := range x.Kids {
		x.Kids[i] = roomySplit(x.Kids[i])
	}
	return x
}

// snapshot: all of h, with what stands behind its lists.
func snapshot(h api.House) string {
	s := fmt.Sprint(h, h.Viewers[:cap(h.Viewers)], len(h.Viewers))
	for _, x := range h.Sessions[:cap(h.Sessions)] {
		s += fmt.Sprintf("\n%q %v %d", x.Name, x, len(x.Windows))
		for _, w := range x.Windows[:cap(x.Windows)] {
			s += fmt.Sprintf("\n  %q %v %s", w.Name, w, snapshotSplit(w.S))
		}
	}
	return s
}

func snapshotSplit(x api.Split) string {
	s := fmt.Sprint(x, len(x.Kids))
	for _, k := range x.Kids[:cap(x.Kids)] {
		s += "(" + snapshotSplit(k) + ")"
	}
	return s
}

// list that a call answered: how to write junk all over it, and the room behind it, and whether that is there still.
type list struct {
	write func()
	holds func() bool
}

func listOf[T any](l []T, junk T) list {
	l = l[:cap(l)]
	write := func() {
		for i := range l {
			l[i] = junk
		}
	}
	holds := func() bool {
		return !slices.ContainsFunc(l, func(x T) bool { return !reflect.DeepEqual(x, junk) })
	}
	return list{write, holds}
}

// listsOf what was answered: each with junk of its own.
func listsOf(answer []any) []list {
	var l []list
	for _, v := range answer {
		switch v := v.(type) {
		case []int:
			l = append(l, listOf(v, -77))
		case api.House:
			l = append(l, listOf(v.Viewers, junkViewer(1)), listOf(v.Sessions, junkSession(2)))
			for _, s := range v.Sessions {
				l = append(l, listOf(s.Windows, junkWindow(len(l))))
				for _, w := range s.Windows {
					l = kidLists(w.S, l)
				}
			}
		}
	}
	return l
}

// kidLists: l, and behind it the lists of x.
func kidLists(x api.Split, l []list) []list {
	l = append(l, listOf(x.Kids, junkSplit(len(l))))
	for _, k := range x.Kids {
		l = kidLists(k, l)
	}
	return l
}

// scribble over all lists of what was answered: does each have memory of its own?
func scribble(t *testing.T, name string, answer []any) {
	t.Helper()
	l := listsOf(answer)
	for _, x := range l {
		x.write()
	}
	for _, x := range l {
		if !x.holds() {
			t.Errorf("%s: two lists of the answer share memory", name)
		}
	}
}

// No call changes what it was handed, or what stands behind its lists; what it answers is new memory, and it answers the same again.
func TestOnlyRead(t *testing.T) {
	for _, text := range []string{
		"#1", "s:0,0 w=1/1/0 #2", "s:0,0 w={1,2}/1/2 @0:9x9 #3",
		"s:1,0 w={1,[2,3]}/2/1z v=5/5/0 u=[7,{8,9}]/8/0 t:0,0 w=10/10/0 @0:9x9 @1:8x8 @0:20x5 #11",
		"s:0,0 w=[1,{2,3},4]/2/1z t:1,2 w=5/5/0 v={7,8}/8/7 u=10/10/10 r:0,0 w=11/11/0 @2:9x9 @1:8x8 #9999",
		"s:0,0 w=1/1/0 t:0,0 w=2/2/0 r:0,0 w={3,5}/5/3 u:0,0 w=8/8/0 @0:9x9 @1:9x9 @1:8x8 @3:7x7 #11",
		"s:5,4 " + windows(6, 1) + " t:0,0 w=[{" + panes(11, 8) + "},19]/10/0 @1:9x9 #20",
	} {
		handed := roomy(of(text))
		before := snapshot(handed)
		for _, c := range calls() {
			name := c.name + " of " + text
			answer := c.make(handed)
			told := fmt.Sprint(answer)
			if snapshot(handed) != before {
				t.Fatalf("%s: it was changed", name)
			}
			if other := fmt.Sprint(c.make(of(text))); other != told {
				t.Errorf("%s = %s, and without room behind its lists %s", name, told, other)
			}
			scribble(t, name, answer)
			if snapshot(handed) != before {
				t.Fatalf("%s: the answer shares memory with it", name)
			}
			if again := fmt.Sprint(c.make(handed)); again != told {
				t.Errorf("%s = %s, then %s", name, told, again)
			}
		}
	}
}

// A wrong house isn't changed, either.
func TestOnlyReadWrong(t *testing.T) {
	for _, f := range faults() {
		h := sound()
		f.put(&h)
		h = roomy(h)
		before := snapshot(h)
		for _, c := range calls() {
			c.make(h)
		}
		if snapshot(h) != before {
			t.Errorf("%s: it was changed", f.name)
		}
	}
}
