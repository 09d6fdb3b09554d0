package house

import (
	"fmt"
	"regexp"
	"strconv"
	"strings"
	"testing"

	"trellis/api"
	"trellis/split"
)

// of: the house that a text tells, word by word: a session and its windows (`name:Active,Before`, then `name=split/Active/Before`, with a z behind, if Zoom is set), viewers (`@Session:WxH`), Next (`#1`).
func of(text string) api.House {
	var h api.House
	for _, word := range strings.Fields(text) {
		switch {
		case word[0] == '#':
			h.Next = number(word[1:])
		case word[0] == '@':
			l := numbers(word)
			h.Viewers = append(h.Viewers, api.Viewer{Session: l[0], W: l[1], H: l[2]})
		case strings.Contains(word, "="):
			last := &h.Sessions[len(h.Sessions)-1]
			last.Windows = append(last.Windows, windowOf(word))
		default:
			name, rest, _ := strings.Cut(word, ":")
			l := numbers(rest)
			h.Sessions = append(h.Sessions, api.Session{Name: name, Active: l[0], Before: l[1]})
		}
	}
	return h
}

func windowOf(word string) api.Window {
	name, rest, _ := strings.Cut(word, "=")
	l := strings.Split(rest, "/")
	w := api.Window{Name: name, Active: number(l[1])}
	w.S, _, _ = split.Parse(l[0])
	last, zoom := strings.CutSuffix(l[2], "z")
	w.Before, w.Zoom = number(last), zoom
	return w
}

func number(s string) int {
	n, e := strconv.Atoi(s)
	if e != nil {
		panic(e)
	}
	return n
}

// numbers: all that stand in s.
func numbers(s string) []int {
	var l []int
	for _, n := range regexp.MustCompile(`-?\d+`).FindAllString(s, -1) {
		l = append(l, number(n))
	}
	return l
}

// show a house, as of reads it: no two right ones look alike, but for lists that are nil or empty.
func show(h api.House) string {
	var l []string
	for _, s := range h.Sessions {
		l = append(l, fmt.Sprintf("%s:%d,%d", s.Name, s.Active, s.Before))
		for _, w := range s.Windows {
			l = append(l, showWindow(w))
		}
	}
	for _, v := range h.Viewers {
		l = append(l, fmt.Sprintf("@%d:%dx%d", v.Session, v.W, v.H))
	}
	return strings.Join(append(l, fmt.Sprintf("#%d", h.Next)), " ")
}

func showWindow(w api.Window) string {
	t, e := split.Print(w.S)
	if e != api.OK {
		t = fmt.Sprint(w.S)
	}
	s := fmt.Sprintf("%s=%s/%d/%d", w.Name, t, w.Active, w.Before)
	if w.Zoom {
		s += "z"
	}
	return s
}

// is: is that what was answered?
func is(t *testing.T, what string, got api.House, e api.Errno, want string) {
	t.Helper()
	if e != api.OK || show(got) != want {
		t.Errorf("%s:\n got %s, %d\nwant %s", what, show(got), e, want)
	}
	if e := Check(got); e != api.OK {
		t.Errorf("%s = %s, which Check refuses by %d", what, show(got), e)
	}
}

// no: is just that error answered?
func no(t *testing.T, what string, got api.House, e, want api.Errno) {
	t.Helper()
	if e != want || show(got) != "#0" {
		t.Errorf("%s = %s, %d; want nothing, %d", what, show(got), e, want)
	}
}

// sessions: the text of so many, with a window of one pane each.
func sessions(n int) string {
	var l []string
	for i := range n {
		l = append(l, fmt.Sprintf("s%d:0,0 w%d=%d/%d/0", i, i, i+1, i+1))
	}
	return strings.Join(l, " ")
}

// windows: the text of so many, of one pane each, from that one on.
func windows(n, from int) string {
	var l []string
	for i := range n {
		l = append(l, fmt.Sprintf("w%d=%d/%d/0", i, from+i, from+i))
	}
	return strings.Join(l, " ")
}

// panes: the text of so many, from that one on.
func panes(n, from int) string {
	var l []string
	for i := range n {
		l = append(l, strconv.Itoa(from+i))
	}
	return strings.Join(l, ",")
}

// P14.1

func TestCheckRight(t *testing.T) {
	var full []string
	for i := range api.MaxHouse {
		full = append(full, fmt.Sprintf("s%d:5,5", i))
		for j := range api.MaxWindows {
			from := (i*api.MaxWindows+j)*api.MaxPanes + 1
			full = append(full, fmt.Sprintf("w={%s}/%d/%dz", panes(api.MaxPanes, from), from+11, from))
		}
	}
	for _, text := range []string{
		"#1", "#2", "#9998", "#9999",
		"s:0,0 w=1/1/0 #2", "s:0,0 w=1/1/1z #2", "s:0,0 w=9998/9998/0 #9999",
		sessions(2) + " #3", sessions(3) + " #4", sessions(4) + " #5",
		sessions(4) + " @3:1x1 @0:120x60 @1:120x1 @2:1x60 #5",
		strings.Join(full, " ") + " @0:9x9 #289",
		// Active and Before of a session: each window
		"s:0,0 " + windows(6, 1) + " #7", "s:5,0 " + windows(6, 1) + " #7", "s:0,5 " + windows(6, 1) + " #7", "s:5,5 " + windows(6, 1) + " #7", "s:0,1 " + windows(2, 1) + " #7",
		// of a window: each pane, Before also none
		"s:0,0 w={1,[2,3]}/1/0 #4", "s:0,0 w={1,[2,3]}/3/1 #4", "s:0,0 w={1,[2,3]}/2/2 #4", "s:0,0 w={1,[2,3]}/2/3z #4",
		// panes in whatever order
		"s:0,0 w={7,[2,5]}/7/5 v=1/1/0 t:0,0 w=6/6/0 #8",
		// windows of one name, in a session and in two, and a session of that name
		"s:0,0 s=1/1/0 s=2/2/0 t:0,0 s=3/3/0 #4",
	} {
		h := of(text)
		if e := Check(h); e != api.OK {
			t.Errorf("Check(%s) = %d", text, e)
		}
		if got := show(h); got != text {
			t.Errorf("the tests read %s as %s", text, got)
		}
	}
	if e := Check(api.House{Sessions: []api.Session{}, Viewers: []api.Viewer{}, Next: 1}); e != api.OK {
		t.Errorf("Check with empty lists = %d", e)
	}
}

func TestCheckMany(t *testing.T) {
	for _, text := range []string{
		sessions(5) + " #6", sessions(9) + " #10",
		sessions(1) + " @0:9x9 @0:9x9 @0:9x9 @0:9x9 @0:9x9 #2",
		// nobody has looked at the rest yet
		sessions(5) + " #0", "s:0,0 s:0,0 s:0,0 s:0,0 s:0,0 #1",
		"s:7,7 @9:0x0 @9:0x0 @9:0x0 @9:0x0 @9:0x0 #0",
		"@0:9x9 @0:9x9 @0:9x9 @0:9x9 @0:9x9 #1",
		// windows
		"s:0,0 #1", "s:0,0 " + windows(7, 1) + " #9", "s:9,9 #1", "s:9,9 " + windows(7, 1) + " #1",
		"s:0,0 w=1/1/0 t:0,0 #2", "s:0,0 w=1/1/0 t:0,0 " + windows(7, 2) + " #9",
	} {
		if e := Check(of(text)); e != api.ErrMany {
			t.Errorf("Check(%s) = %d", text, e)
		}
	}
}

// names that are right, and others.
func names() (right, wrong []string) {
	a := func(n int) string { return strings.Repeat("a", n) }
	right = []string{"x", a(19), a(20), "日", strings.Repeat("日", 20), "\uFFFD", "\u00e9", "\U0001F600", "a\u00a0b", "#{x}", "-"}
	wrong = []string{"", a(21), a(3000), strings.Repeat("日", 21), " ", "a b", " a", "a ", a(20) + " ", "\n", "a\n", "\ta", "a\x00b", "\x7f", "\u0085", "e\u0301", "\u200b", "\ufeffa", a(20) + "\u0301", "\xff", "a\xe6\x97", "\xc0\x80", "\xed\xa0\x80"}
	return right, wrong
}

func TestNames(t *testing.T) {
	right, wrong := names()
	for i, name := range append(right, wrong...) {
		want := api.OK
		if i >= len(right) {
			want = api.ErrText
		}
		for _, at := range []int{0, 1} {
			h := of("s:0,0 w=1/1/0 v=2/2/0 t:0,0 w=3/3/0 v=4/4/0 #5")
			h.Sessions[at].Name = name
			if e := Check(h); e != want {
				t.Errorf("Check, a session named %q: %d, want %d", name, e, want)
			}
			for _, window := range []int{0, 1} {
				h = of("s:0,0 w=1/1/0 v=2/2/0 t:0,0 w=3/3/0 v=4/4/0 #5")
				h.Sessions[at].Windows[window].Name = name
				if e := Check(h); e != want {
					t.Errorf("Check, a window named %q: %d, want %d", name, e, want)
				}
			}
		}
		checkNamed(t, name, want)
	}
}

// checkNamed: does each call that gives a name take that one, or tell want?
func checkNamed(t *testing.T, name string, want api.Errno) {
	t.Helper()
	h := of("s:0,0 w=1/1/0 #2")
	for _, c := range []struct {
		what string
		call func() (api.House, api.Errno)
	}{
		{"Session", func() (api.House, api.Errno) { return Session(h, name, "w") }},
		{"Session's window", func() (api.House, api.Errno) { return Session(h, "t", name) }},
		{"Window", func() (api.House, api.Errno) { return Window(h, 0, name) }},
	} {
		got, e := c.call()
		if want != api.OK {
			no(t, fmt.Sprintf("%s %q", c.what, name), got, e, want)
			continue
		}
		last := got.Sessions[len(got.Sessions)-1]
		if e != api.OK || name != last.Name && name != last.Windows[len(last.Windows)-1].Name {
			t.Errorf("%s %q: %s, %d", c.what, name, show(got), e)
		}
	}
}

func TestCheckTwice(t *testing.T) {
	for _, text := range []string{
		// a name
		"s:0,0 w=1/1/0 s:0,0 w=2/2/0 #3",
		"s:0,0 w=1/1/0 t:0,0 w=2/2/0 s:0,0 w=3/3/0 #4",
		"s:0,0 w=1/1/0 t:0,0 w=2/2/0 u:0,0 w=3/3/0 t:0,0 w=4/4/0 #5",
		// a pane: in the same session, in another
		"s:0,0 w=1/1/0 v=1/1/0 #3", "s:0,0 w=1/1/0 v={2,1}/2/0 #3", "s:0,0 w={1,[2,3]}/1/0 v=4/4/0 u={5,3}/5/0 #6",
		"s:0,0 w=1/1/0 t:0,0 v=1/1/0 #3", "s:0,0 w={1,2}/1/0 t:0,0 v=3/3/0 u={4,[5,2]}/4/5 #6",
		// one ahead of what isn't below Next, and one behind another pane
		"s:0,0 w=1/1/0 v={1,9}/1/0 #3", "s:0,0 w=1/1/0 v={2,1}/2/0 t:0,0 v=9/9/0 #3",
	} {
		if e := Check(of(text)); e != api.ErrTwice {
			t.Errorf("Check(%s) = %d", text, e)
		}
	}
}

func TestCheckNext(t *testing.T) {
	for _, text := range []string{
		"#0", "#-1", "#10000", "#9223372036854775807", "#-9223372036854775808",
		"s:0,0 w=1/1/0 #1", "s:0,0 w=1/1/0 #0", "s:0,0 w=2/2/0 #1", "s:0,0 w=1/1/0 #10000", "s:0,0 w=9999/9999/0 #9999", "s:0,0 w=9999/9999/0 #10000",
		"s:0,0 w={1,[5,2]}/1/0 #5", "s:0,0 w={1,[4,2]}/1/0 v=5/5/0 #5", "s:0,0 w=1/1/0 t:0,0 v={2,5}/2/0 #5",
		// ahead of what was met
		"s:0,0 w=1/1/0 v={9,1}/9/0 #3", "s:0,0 w=1/1/0 v=9/9/0 t:0,0 v=1/1/0 #3",
		"@0:9x9 #0", "@0:9x9 #10000",
	} {
		if e := Check(of(text)); e != api.ErrRange {
			t.Errorf("Check(%s) = %d", text, e)
		}
	}
	if e := Check(of("s:0,0 w={1,[4,2]}/1/0 #5")); e != api.OK {
		t.Errorf("a pane one below Next: %d", e)
	}
}

func TestCheckWho(t *testing.T) {
	for _, text := range []string{
		"s:-1,0 w=1/1/0 #2", "s:1,0 w=1/1/0 #2", "s:0,-1 w=1/1/0 #2", "s:0,1 w=1/1/0 #2", "s:-1,-1 w=1/1/0 #2",
		"s:6,0 " + windows(6, 1) + " #7", "s:0,6 " + windows(6, 1) + " #7", "s:-1,5 " + windows(6, 1) + " #7", "s:5,-1 " + windows(6, 1) + " #7",
		"s:9223372036854775807,0 w=1/1/0 #2", "s:0,-9223372036854775808 w=1/1/0 #2",
		"s:0,0 w=1/1/0 t:1,0 w=2/2/0 #3", "s:0,0 w=1/1/0 t:0,1 w=2/2/0 #3",
		// a window's
		"s:0,0 w=1/0/0 #2", "s:0,0 w=1/2/0 #3", "s:0,0 w=1/-1/0 #2", "s:0,0 w=1/1/2 #3", "s:0,0 w=1/1/-1 #2", "s:0,0 w={1,2}/3/1 #4", "s:0,0 w={1,2}/1/3 #4", "s:0,0 w={1,2}/0/1 #3", "s:0,0 w={1,2}/1/10000 #3",
		// a pane of another window
		"s:0,0 w=1/1/0 v=2/1/0 #3", "s:0,0 w=1/1/0 v=2/2/1 #3", "s:0,0 w=1/2/0 v=2/2/0 #3", "s:0,0 w=1/1/0 t:0,0 v=2/1/0 #3", "s:0,0 w=1/1/0 t:0,0 v=2/2/1 #3",
		// viewers
		"@0:9x9 #1", "s:0,0 w=1/1/0 @1:9x9 #2", "s:0,0 w=1/1/0 @-1:9x9 #2", sessions(4) + " @4:9x9 #5", sessions(4) + " @3:9x9 @0:9x9 @4:9x9 #5", "s:0,0 w=1/1/0 @1:0x0 #2",
	} {
		if e := Check(of(text)); e != api.ErrWho {
			t.Errorf("Check(%s) = %d", text, e)
		}
	}
}

func TestCheckSize(t *testing.T) {
	for _, v := range []string{"0x9", "9x0", "121x9", "9x61", "-1x9", "9x-1", "0x0", "121x61", "9223372036854775807x9", "9x-9223372036854775808"} {
		for _, text := range []string{"s:0,0 w=1/1/0 @0:" + v + " #2", "s:0,0 w=1/1/0 @0:9x9 @0:" + v + " #2", sessions(2) + " @0:1x1 @0:9x9 @1:120x60 @1:" + v + " #3", sessions(2) + " @0:" + v + " @2:1x1 #3"} {
			if e := Check(of(text)); e != api.ErrSize {
				t.Errorf("Check(%s) = %d", text, e)
			}
		}
	}
}
