package house

import (
	"fmt"
	"math"
	"slices"
	"strings"
	"testing"

	"trellis/api"
	"trellis/split"
)

// The model: a house in which windows and sessions are pointed at, not counted.
type (
	modelWindow struct {
		api.Window
	}
	modelSession struct {
		name           string
		windows        []*modelWindow
		active, before *modelWindow
	}
	modelViewer struct {
		session *modelSession
		w, h    int
	}
	modelHouse struct {
		sessions []*modelSession
		viewers  []*modelViewer
		next     int
	}
)

func modelOf(h api.House) *modelHouse {
	m := &modelHouse{next: h.Next}
	for _, s := range h.Sessions {
		one := &modelSession{name: s.Name}
		for _, w := range s.Windows {
			one.windows = append(one.windows, &modelWindow{w})
		}
		one.active, one.before = one.windows[s.Active], one.windows[s.Before]
		m.sessions = append(m.sessions, one)
	}
	for _, v := range h.Viewers {
		m.viewers = append(m.viewers, &modelViewer{m.sessions[v.Session], v.W, v.H})
	}
	return m
}

func (m *modelHouse) house() api.House {
	h := api.House{Next: m.next}
	for _, s := range m.sessions {
		one := api.Session{Name: s.name, Active: slices.Index(s.windows, s.active), Before: slices.Index(s.windows, s.before)}
		for _, w := range s.windows {
			one.Windows = append(one.Windows, w.Window)
		}
		h.Sessions = append(h.Sessions, one)
	}
	for _, v := range m.viewers {
		h.Viewers = append(h.Viewers, api.Viewer{Session: slices.Index(m.sessions, v.session), W: v.w, H: v.h})
	}
	return h
}

// find the window that has a pane, and its session.
func (m *modelHouse) find(pane int) (*modelSession, *modelWindow) {
	for _, s := range m.sessions {
		for _, w := range s.windows {
			if slices.Contains(split.Panes(w.S), pane) {
				return s, w
			}
		}
	}
	return nil, nil
}

// fresh: a new window, without a name yet; nil, if there is no new pane.
func (m *modelHouse) fresh() *modelWindow {
	if m.next == api.MaxParam {
		return nil
	}
	w := &modelWindow{api.Window{S: leaf(m.next), Active: m.next}}
	m.next++
	return w
}

func rightName(s string) bool {
	return s != "" && len(s) <= api.MaxTitle && !strings.ContainsAny(s, " \n") // the tests that have a model know no others
}

func (m *modelHouse) session(n, w string) api.Errno {
	if !rightName(n) || !rightName(w) {
		return api.ErrText
	}
	for _, s := range m.sessions {
		if s.name == n {
			return api.ErrTwice
		}
	}
	if len(m.sessions) >= api.MaxHouse {
		return api.ErrFull
	}
	one := m.fresh()
	if one == nil {
		return api.ErrFull
	}
	one.Name = w
	m.sessions = append(m.sessions, &modelSession{n, []*modelWindow{one}, one, one})
	return api.OK
}

func (m *modelHouse) window(session int, n string) api.Errno {
	if session < 0 || session >= len(m.sessions) {
		return api.ErrWho
	}
	if !rightName(n) {
		return api.ErrText
	}
	s := m.sessions[session]
	if len(s.windows) >= api.MaxWindows {
		return api.ErrFull
	}
	one := m.fresh()
	if one == nil {
		return api.ErrFull
	}
	one.Name = n
	s.windows = append(s.windows, one)
	s.before = s.active
	s.active = one
	return api.OK
}

func (m *modelHouse) show(session, w int) api.Errno {
	if session < 0 || session >= len(m.sessions) || w < 0 || w >= len(m.sessions[session].windows) {
		return api.ErrWho
	}
	s := m.sessions[session]
	if s.windows[w] != s.active {
		s.before = s.active
		s.active = s.windows[w]
	}
	return api.OK
}

func (m *modelHouse) cut(pane, way int) api.Errno {
	_, w := m.find(pane)
	if w == nil {
		return api.ErrWho
	}
	parted, e := split.Cut(w.S, pane, way, m.next)
	if e != api.OK {
		return e
	}
	if m.next >= api.MaxParam {
		return api.ErrFull
	}
	w.S = parted
	w.Before = w.Active
	w.Active = m.next
	w.Zoom = false
	m.next++
	return api.OK
}

func (m *modelHouse) pick(pane int) api.Errno {
	_, w := m.find(pane)
	if w == nil {
		return api.ErrWho
	}
	if pane != w.Active {
		w.Before = w.Active
		w.Active = pane
		w.Zoom = false
	}
	return api.OK
}

func (m *modelHouse) zoom(pane int) api.Errno {
	_, w := m.find(pane)
	if w == nil {
		return api.ErrWho
	}
	was := w.Active == pane && w.Zoom
	m.pick(pane)
	w.Zoom = !was
	return api.OK
}

func (m *modelHouse) close(pane int) api.Errno {
	s, w := m.find(pane)
	if w == nil {
		return api.ErrWho
	}
	l := split.Panes(w.S)
	switch {
	case len(l) > 1:
		at := slices.Index(l, pane)
		w.S, _ = split.Drop(w.S, pane)
		w.Zoom = false
		if w.Before == pane {
			w.Before = 0
		}
		if w.Active == pane && w.Before != 0 {
			w.Active = w.Before
			w.Before = 0
		} else if w.Active == pane && at == 0 {
			w.Active = l[1]
		} else if w.Active == pane {
			w.Active = l[at-1]
		}
	case len(s.windows) > 1:
		s.drop(w)
	default:
		at := slices.Index(m.sessions, s)
		m.sessions = slices.Delete(m.sessions, at, at+1)
		m.viewers = slices.DeleteFunc(m.viewers, func(v *modelViewer) bool { return v.session == s })
	}
	return api.OK
}

func (s *modelSession) drop(w *modelWindow) {
	at := slices.Index(s.windows, w)
	if s.active == w {
		s.active = s.before
		if s.before == w && at == 0 {
			s.active = s.windows[1]
		} else if s.before == w {
			s.active = s.windows[at-1]
		}
	}
	if s.before == w {
		s.before = s.active
	}
	s.windows = slices.Delete(s.windows, at, at+1)
}

func (m *modelHouse) look(session, wide, high int) api.Errno {
	if session < 0 || session >= len(m.sessions) {
		return api.ErrWho
	}
	if wide < 1 || wide > api.MaxWide || high < 1 || high > api.MaxHigh {
		return api.ErrSize
	}
	if len(m.viewers) >= api.MaxClients {
		return api.ErrFull
	}
	m.viewers = append(m.viewers, &modelViewer{m.sessions[session], wide, high})
	return api.OK
}

func (m *modelHouse) size(session int) (w, h int, e api.Errno) {
	if session < 0 || session >= len(m.sessions) {
		return 0, 0, api.ErrWho
	}
	var wide, high []int
	for _, v := range m.viewers {
		if v.session == m.sessions[session] {
			wide, high = append(wide, v.w), append(high, v.h)
		}
	}
	if len(wide) == 0 {
		return 0, 0, api.OK
	}
	slices.Sort(wide)
	slices.Sort(high)
	return wide[0], max(1, high[0]-1), api.OK
}

// step: a call that changes a house, and what the model does.
type step struct {
	name  string
	make  func(h api.House) (api.House, api.Errno)
	model func(m *modelHouse) api.Errno
}

func paneSteps(pane int) []step {
	l := []step{
		{fmt.Sprint("Pick ", pane), func(h api.House) (api.House, api.Errno) { return Pick(h, pane) }, func(m *modelHouse) api.Errno { return m.pick(pane) }},
		{fmt.Sprint("Zoom ", pane), func(h api.House) (api.House, api.Errno) { return Zoom(h, pane) }, func(m *modelHouse) api.Errno { return m.zoom(pane) }},
		{fmt.Sprint("Close ", pane), func(h api.House) (api.House, api.Errno) { return Close(h, pane) }, func(m *modelHouse) api.Errno { return m.close(pane) }},
	}
	for _, way := range []int{api.Row, api.Column, api.Leaf, 3} {
		l = append(l, step{fmt.Sprint("Cut ", pane, way), func(h api.House) (api.House, api.Errno) { return Cut(h, pane, way) }, func(m *modelHouse) api.Errno { return m.cut(pane, way) }})
	}
	return l
}

func sessionSteps(session int) []step {
	var l []step
	for _, n := range []string{"w", "v", "", "a b"} {
		l = append(l, step{fmt.Sprintf("Window %d %q", session, n), func(h api.House) (api.House, api.Errno) { return Window(h, session, n) }, func(m *modelHouse) api.Errno { return m.window(session, n) }})
	}
	for w := -1; w <= api.MaxWindows; w++ {
		l = append(l, step{fmt.Sprint("Show ", session, w), func(h api.House) (api.House, api.Errno) { return Show(h, session, w) }, func(m *modelHouse) api.Errno { return m.show(session, w) }})
	}
	for _, v := range [][2]int{{20, 5}, {120, 60}, {1, 1}, {0, 5}, {121, 5}, {20, 0}, {20, 61}} {
		l = append(l, step{fmt.Sprint("Look ", session, v), func(h api.House) (api.House, api.Errno) { return Look(h, session, v[0], v[1]) }, func(m *modelHouse) api.Errno { return m.look(session, v[0], v[1]) }})
	}
	return l
}

// otherSteps: those that ask for no session and no pane.
func otherSteps() []step {
	var l []step
	for _, n := range []string{"s", "t", "u", "r", "fresh", "", "\n"} {
		for _, w := range []string{"w", ""} {
			l = append(l, step{fmt.Sprintf("Session %q %q", n, w), func(h api.House) (api.House, api.Errno) { return Session(h, n, w) }, func(m *modelHouse) api.Errno { return m.session(n, w) }})
		}
	}
	return l
}

// steps with all sessions and panes that h has, and some that it hasn't.
func steps(h api.House) []step {
	l := otherSteps()
	for session := -1; session <= len(h.Sessions); session++ {
		l = append(l, sessionSteps(session)...)
	}
	panes := []int{0, -1, h.Next, h.Next + 1, math.MaxInt}
	for _, s := range h.Sessions {
		for _, w := range s.Windows {
			panes = append(panes, split.Panes(w.S)...)
		}
	}
	for _, pane := range panes {
		l = append(l, paneSteps(pane)...)
	}
	return l
}

// checkStep, done to a right house: is what is answered as the model has it, and right?
func checkStep(t *testing.T, h api.House, s step) (api.House, api.Errno) {
	t.Helper()
	got, e := s.make(h)
	m := modelOf(h)
	want := s.model(m)
	if want != api.OK {
		no(t, s.name+" of "+show(h), got, e, want)
	} else {
		is(t, s.name+" of "+show(h), got, e, show(m.house()))
	}
	return got, e
}

// checkAll steps on that house, and what it tells.
func checkAll(t *testing.T, text string) {
	t.Helper()
	h := of(text)
	if e := Check(h); e != api.OK {
		t.Fatalf("Check(%s) = %d", text, e)
	}
	for _, s := range steps(h) {
		checkStep(t, h, s)
	}
	m := modelOf(h)
	for session := -1; session <= len(h.Sessions); session++ {
		got, want := fmt.Sprint(Size(h, session)), fmt.Sprint(m.size(session))
		if got != want {
			t.Errorf("Size(%s, %d) = %s, want %s", text, session, got, want)
		}
	}
}

// Each window of up to four panes, whichever of them are Active and Before.
func TestEachWindow(t *testing.T) {
	for _, parts := range []string{"1", "{1,2}", "[2,1]*3", "{1,2,3}", "{3,[1*5,2]*2}", "[{1,2},3]", "{1,2,3,4}", "[1,{4,3,2}*6]", "{1,[2,{3,4}*2]*3}", "{[1,2],[3,4]}"} {
		x, _, _ := split.Parse(parts)
		l := split.Panes(x)
		for _, active := range l {
			for _, before := range append(l, 0) {
				for _, zoom := range []string{"", "z"} {
					w := fmt.Sprintf("w=%s/%d/%d%s", parts, active, before, zoom)
					checkAll(t, "s:0,0 "+w+" @0:9x9 #5")
					checkAll(t, "s:0,0 u=8/8/0 t:1,0 u=9/9/0z "+w+" v={6,7}/6/7z @1:9x9 @0:8x8 #10")
				}
			}
		}
	}
}

// Each session of up to six windows, whichever of them are Active and Before.
func TestEachSession(t *testing.T) {
	for n := 1; n <= api.MaxWindows; n++ {
		for active := range n {
			for before := range n {
				s := fmt.Sprintf("s:%d,%d %s", active, before, windows(n, 1))
				checkAll(t, s+" #9999")
				checkAll(t, "t:0,0 w={8,9}/8/0 "+s+" u:0,0 w=7/7/0 @0:9x9 @1:5x5 @2:7x7 #10")
			}
		}
	}
}

// Each house of up to four sessions with up to four viewers, whatever these look at.
func TestEachHouse(t *testing.T) {
	for n := 1; n <= api.MaxHouse; n++ {
		for viewers := range api.MaxClients + 1 {
			looks := make([]int, viewers)
			for more := true; more; more = turn(looks, n) {
				text := strings.NewReplacer("s0", "s", "s1", "t", "s2", "u", "s3", "r").Replace(sessions(n))
				for i, session := range looks {
					text += fmt.Sprintf(" @%d:%dx%d", session, 20-i, 1+(i+2)%4)
				}
				checkAll(t, text+" #7")
			}
		}
	}
}

// turn to the next list of numbers below n; false behind the last one.
func turn(l []int, n int) bool {
	for i := range l {
		l[i] = (l[i] + 1) % n
		if l[i] != 0 {
			return true
		}
	}
	return false
}

// P14.6

// random numbers, the same ones each time.
func random(seed uint32) func(n int) int {
	return func(n int) int {
		seed = seed*1664525 + 1013904223
		return int(seed>>8) % n
	}
}

// Whatever is done to a right house, one step behind another, Check takes it, and it is as the model has it.
func TestWalks(t *testing.T) {
	seen := map[string]int{}
	for walk := range 60 {
		next := random(uint32(walk))
		h := api.House{Next: 1}
		if walk%5 == 4 {
			h.Next = api.MaxParam - 20
		}
		for range 150 {
			l := steps(h)
			s := l[next(len(l))]
			got, e := checkStep(t, h, s)
			seen[fmt.Sprint(strings.Fields(s.name)[0], " ", e)]++
			if e == api.OK {
				h = got
			}
		}
		if t.Failed() {
			return
		}
	}
	for _, what := range []string{"Session 0", "Session 1", "Session 7", "Session 10", "Window 0", "Window 1", "Window 6", "Window 10", "Show 0", "Show 6", "Cut 0", "Cut 4", "Cut 6", "Cut 10", "Pick 0", "Pick 6", "Zoom 0", "Zoom 6", "Close 0", "Close 6", "Look 0", "Look 3", "Look 6", "Look 10"} {
		if seen[what] == 0 {
			t.Errorf("no walk came to %s (a call, and an error)", what)
		}
	}
}
