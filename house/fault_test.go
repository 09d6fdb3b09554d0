package house

import (
	"fmt"
	"slices"
	"strings"
	"testing"

	"trellis/api"
)

// fault of a house: what it tells of which part (of). Of two, where one's part is the other's, or holds it, only one is put in.
type fault struct {
	name, of string
	want     api.Errno
	put      func(h *api.House)
}

// sound: the house that faults are put into: each of its windows is parted as {a,b,[c,d]}, c is Active, d is Before.
func sound() api.House {
	return of("s:0,1 w={1,2,[3,4]}/3/4 v={5,6,[7,8]}/7/8z t:1,1 w={9,10,[11,12]}/11/12 u={13,14,[15,16]}/15/16 @0:20x5 @1:120x60 #100")
}

// faults of sound, in the order in which Check comes to them.
func faults() []fault {
	l := []fault{
		{"five sessions", "all", api.ErrMany, func(h *api.House) {
			h.Sessions = append(h.Sessions, of("x:0,0 w=20/20/0 y:0,0 w=21/21/0 z:0,0 w=22/22/0 #99").Sessions...)
		}},
		{"five viewers", "viewers", api.ErrMany, func(h *api.House) {
			h.Viewers = append(h.Viewers, of("@0:9x9 @0:9x9 @0:9x9 #1").Viewers...)
		}},
	}
	for i := range 2 {
		l = append(l, sessionFaults(i)...)
		for j := range 2 {
			l = append(l, windowFaults(i, j)...)
		}
	}
	for _, next := range []int{10000, 20000} {
		l = append(l, fault{fmt.Sprint("Next ", next), "next", api.ErrRange, func(h *api.House) { h.Next = next }})
	}
	for i := range 2 {
		l = append(l, viewerFaults(i)...)
	}
	return l
}

func sessionFaults(i int) []fault {
	in := func(of, what string, want api.Errno, put func(h *api.House, s *api.Session)) fault {
		return fault{fmt.Sprint("session ", i, ": ", what), fmt.Sprint("session ", i, " ", of), want, func(h *api.House) { put(h, &h.Sessions[i]) }}
	}
	l := []fault{
		in("name", "no name", api.ErrText, func(_ *api.House, s *api.Session) { s.Name = "" }),
		in("name", "a name with a blank", api.ErrText, func(_ *api.House, s *api.Session) { s.Name = "a b" }),
	}
	if i > 0 {
		l = append(l, in("name", "a name that was met", api.ErrTwice, func(h *api.House, s *api.Session) { s.Name = h.Sessions[0].Name }))
	}
	return append(l,
		in("window", "no window", api.ErrMany, func(_ *api.House, s *api.Session) { s.Windows = nil }),
		in("window many", "seven windows", api.ErrMany, func(_ *api.House, s *api.Session) {
			s.Windows = append(s.Windows, of("s:0,0 " + windows(5, 30+10*i) + " #1").Sessions[0].Windows...)
		}),
		in("Active", "Active", api.ErrWho, func(_ *api.House, s *api.Session) { s.Active = 9 }),
		in("Before", "Before", api.ErrWho, func(_ *api.House, s *api.Session) { s.Before = -1 }))
}

// a leaf of Size 1.
func leaf(pane int) api.Split { return api.Split{Pane: pane, Size: 1} }

func windowFaults(i, j int) []fault {
	in := func(of, what string, want api.Errno, put func(w *api.Window)) fault {
		return fault{fmt.Sprint("session ", i, ", window ", j, ": ", what), fmt.Sprint("session ", i, " window ", j, " ", of), want, func(h *api.House) { put(&h.Sessions[i].Windows[j]) }}
	}
	l := []fault{
		in("name", "no name", api.ErrText, func(w *api.Window) { w.Name = "" }),
		in("name", "too long a name", api.ErrText, func(w *api.Window) { w.Name = strings.Repeat("a", 21) }),
		in("split", "the split's Size", api.ErrRange, func(w *api.Window) { w.S.Size = 0 }),
		in("split", "the split's Pane", api.ErrForm, func(w *api.Window) { w.S.Pane = 1 }),
		in("split", "the split's Way", api.ErrForm, func(w *api.Window) { w.S.Way = 3 }),
		in("split", "a split with a pane twice", api.ErrTwice, func(w *api.Window) { w.S.Kids = append(w.S.Kids, leaf(w.S.Kids[2].Kids[0].Pane)) }),
		in("split", "a split with 13 panes", api.ErrMany, func(w *api.Window) {
			for n := range 9 {
				w.S.Kids = append(w.S.Kids, leaf(50+n))
			}
		}),
		in("Active", "Active 0", api.ErrWho, func(w *api.Window) { w.Active = 0 }),
		in("Active", "Active is nowhere", api.ErrWho, func(w *api.Window) { w.Active = 99 }),
		in("Active", "Active is elsewhere", api.ErrWho, func(w *api.Window) { w.Active = 1 + (w.Active+5)%16 }),
		in("Before", "Before is nowhere", api.ErrWho, func(w *api.Window) { w.Before = 99 }),
		in("Before", "Before is elsewhere", api.ErrWho, func(w *api.Window) { w.Before = 1 + (w.Before+5)%16 }),
	}
	for kid := range 2 {
		name := string(rune('a' + kid))
		if i+j > 0 {
			l = append(l, in(name, name+" was met", api.ErrTwice, func(w *api.Window) { w.S.Kids[kid].Pane = 3 + kid }))
		}
		l = append(l,
			in(name, name+" is Next or above", api.ErrRange, func(w *api.Window) { w.S.Kids[kid].Pane = 100 + kid }),
			in(name, name+" is far above Next", api.ErrRange, func(w *api.Window) { w.S.Kids[kid].Pane = 9998 + kid }))
	}
	return l
}

func viewerFaults(i int) []fault {
	in := func(of, what string, want api.Errno, put func(v *api.Viewer)) fault {
		return fault{fmt.Sprint("viewer ", i, ": ", what), fmt.Sprint("viewer ", i, " ", of), want, func(h *api.House) { put(&h.Viewers[i]) }}
	}
	return []fault{
		in("Session", "Session above", api.ErrWho, func(v *api.Viewer) { v.Session = 7 }),
		in("Session", "Session below", api.ErrWho, func(v *api.Viewer) { v.Session = -1 }),
		in("W", "W 0", api.ErrSize, func(v *api.Viewer) { v.W = 0 }),
		in("W", "W too great", api.ErrSize, func(v *api.Viewer) { v.W = 121 }),
		in("H", "H 0", api.ErrSize, func(v *api.Viewer) { v.H = 0 }),
		in("H", "H too great", api.ErrSize, func(v *api.Viewer) { v.H = 61 }),
	}
}

// apart: can both be put into one house?
func apart(a, b fault) bool {
	return !strings.HasPrefix(a.of+" ", b.of+" ") && !strings.HasPrefix(b.of+" ", a.of+" ")
}

func TestFaults(t *testing.T) {
	if e := Check(sound()); e != api.OK {
		t.Fatalf("what faults are put into: %d", e)
	}
	for _, f := range faults() {
		h := sound()
		f.put(&h)
		refused(t, f.name, h, f.want)
	}
}

// Of two faults, in whichever order they come into the house, the one that Check comes to first is told.
func TestTwoFaults(t *testing.T) {
	l := faults()
	for i, a := range l {
		for _, b := range l[i+1:] {
			if !apart(a, b) {
				continue
			}
			for _, put := range [][]fault{{a, b}, {b, a}} {
				h := sound()
				put[0].put(&h)
				put[1].put(&h)
				if e := Check(h); e != a.want {
					t.Errorf("%s, and %s: %d, want %d", a.name, b.name, e, a.want)
				}
			}
		}
	}
}

// A pane that isn't below Next, in a house without a right Next: the pane is met first, and what is behind it isn't looked at.
func TestNextBehindPanes(t *testing.T) {
	l := faults()
	first := slices.IndexFunc(l, func(f fault) bool { return f.of == "session 0 window 0 a" })
	for _, next := range []int{0, -5} {
		for i, f := range l {
			h := sound()
			h.Next = next
			f.put(&h)
			want := api.ErrRange
			if i < first {
				want = f.want
			}
			if e := Check(h); e != want {
				t.Errorf("Next %d, and %s: %d, want %d", next, f.name, e, want)
			}
		}
	}
}
