package screen

import (
	"reflect"
	"slices"
	"strings"
	"testing"
	"unicode/utf8"

	"trellis/api"
	"trellis/put"
)

// fault: one thing that Check refuses, and its error.
type fault struct {
	what string
	want api.Errno
	set  func(*api.Screen)
}

// faults in the order in which Check tells them, by groups: of those of one group none goes ahead of another.
func faults() [][]fault {
	return [][]fault{
		gridFaults(), placeFaults(),
		{
			{"late ahead of the last column", api.ErrForm, func(s *api.Screen) { s.X, s.Late = 2, true }},
			{"late without Wrap", api.ErrForm, func(s *api.Screen) { s.X, s.Late, s.Modes = 3, true, allModes&^api.Wrap }},
		},
		lookFaults(), formFaults(),
		{
			{"too many rows gone", api.ErrMany, func(s *api.Screen) {
				s.Gone = slices.Repeat([][]api.Cell{{{R: 'a'}}}, api.MaxHistory+1)
			}},
		}, {
			{"a gone row without cells", api.ErrForm, func(s *api.Screen) { s.Gone[1] = nil }},
			{"a gone row that is too long", api.ErrForm, func(s *api.Screen) { s.Gone[0] = slices.Repeat(s.Gone[0], api.MaxWide+1) }},
			{"a wrong rune in a gone row", api.ErrForm, func(s *api.Screen) { s.Gone[0][0].R = '\t' }},
			{"a left half in a gone row", api.ErrForm, func(s *api.Screen) { s.Gone[1] = s.Gone[1][:1] }},
		},
	}
}

func gridFaults() []fault {
	return []fault{
		{"no cells at all", api.ErrSize, func(s *api.Screen) { s.G = api.Grid{} }},
		{"width and height below 0", api.ErrSize, func(s *api.Screen) { s.G.W, s.G.H = -4, -3 }},
		{"a cell too few", api.ErrSize, func(s *api.Screen) { s.G.Cells = s.G.Cells[1:] }},
		{"a cell too many", api.ErrSize, func(s *api.Screen) { s.G.Cells = append(s.G.Cells, api.Cell{R: ' '}) }},
		{"too many columns", api.ErrSize, func(s *api.Screen) {
			s.G.W, s.G.Cells = api.MaxWide+1, slices.Repeat([]api.Cell{{R: ' '}}, 3*(api.MaxWide+1))
		}},
		{"too many rows", api.ErrSize, func(s *api.Screen) {
			s.G.H, s.G.Cells = api.MaxHigh+1, slices.Repeat([]api.Cell{{R: ' '}}, 4*(api.MaxHigh+1))
		}},
		{"a wrong rune", api.ErrRange, func(s *api.Screen) { s.G.Cells[11].R = 0x301 }},
		{"a wrong style", api.ErrRange, func(s *api.Screen) { s.G.Cells[0].S = wrong }},
		{"a right half alone", api.ErrForm, func(s *api.Screen) { s.G.Cells[0].R = 0 }},
		{"a left half alone", api.ErrForm, func(s *api.Screen) { s.G.Cells[11].R = '日' }},
		{"halves that look different", api.ErrForm, func(s *api.Screen) { s.G.Cells[3].S = red }},
	}
}

func placeFaults() []fault {
	return []fault{
		{"X below 0", api.ErrRange, func(s *api.Screen) { s.X = -1 }},
		{"X at W", api.ErrRange, func(s *api.Screen) { s.X = 4 }},
		{"Y below 0", api.ErrRange, func(s *api.Screen) { s.Y = lowest }},
		{"Y at H", api.ErrRange, func(s *api.Screen) { s.Y = 3 }},
		{"K.X at W", api.ErrRange, func(s *api.Screen) { s.K.X = 4 }},
		{"K.Y below 0", api.ErrRange, func(s *api.Screen) { s.K.Y = -1 }},
		{"Top below 0", api.ErrRange, func(s *api.Screen) { s.Top = -1 }},
		{"Top at Bottom", api.ErrRange, func(s *api.Screen) { s.Top, s.Bottom = 1, 1 }},
		{"Bottom at H", api.ErrRange, func(s *api.Screen) { s.Bottom = 3 }},
	}
}

func lookFaults() []fault {
	return []fault{
		{"no style", api.ErrRange, func(s *api.Screen) { s.S = wrong }},
		{"no kept style", api.ErrRange, func(s *api.Screen) { s.K.S = wrong }},
		{"modes below 0", api.ErrRange, func(s *api.Screen) { s.Modes = -1 }},
		{"modes above 63", api.ErrRange, func(s *api.Screen) { s.Modes = allModes + 1 }},
		{"kept Insert", api.ErrRange, func(s *api.Screen) { s.K.Modes = api.Insert }},
	}
}

func formFaults() []fault {
	return []fault{
		{"no tabs", api.ErrForm, func(s *api.Screen) { s.Tabs = nil }},
		{"a tab too many", api.ErrForm, func(s *api.Screen) { s.Tabs = make([]bool, 5) }},
		{"a last rune on another", api.ErrForm, func(s *api.Screen) { s.Last = 0x301 }},
		{"a last rune above all", api.ErrForm, func(s *api.Screen) { s.Last = utf8.MaxRune + 1 }},
		{"a title that isn't clean", api.ErrForm, func(s *api.Screen) { s.Title = "a\tb" }},
		{"a title that is too long", api.ErrForm, func(s *api.Screen) { s.Title = strings.Repeat("日", api.MaxTitle+1) }},
	}
}

// wrongStates: such as no reader may be in.
func wrongStates() []api.State {
	return []api.State{
		{At: -1}, {At: api.InSkip + 1}, {At: 7}, {At: lowest}, {At: most}, {Left: "a"}, {Left: "日"}, {Left: "\xff"}, {Left: "\xe6\x97\xa5\xe6"}, {Late: true}, {Mark: '?'}, {Middle: " "}, {Params: []int{1}}, {Text: "x"},
		{At: api.InEscape, Left: "\xe6"}, {At: api.InEscape, Params: []int{1}}, {At: api.InMiddle}, {At: api.InMiddle, Middle: "0"}, {At: api.InMiddle, Middle: "   "}, {At: api.InMiddle, Middle: " ", Mark: '?'},
		{At: api.InCommand, Middle: "   "}, {At: api.InCommand, Mark: 'x'}, {At: api.InCommand, Params: []int{-2}}, {At: api.InCommand, Params: []int{api.MaxParam + 1}}, {At: api.InCommand, Params: make([]int, api.MaxParams+1)}, {At: api.InCommand, Text: "x"},
		{At: api.InSystem, Text: strings.Repeat("x", api.MaxString+1)}, {At: api.InSystem, Text: "a\nb"}, {At: api.InSystem, Left: "\xe6"}, {At: api.InSkip, Late: true}, {At: api.InSkip, Text: "x"},
	}
}

// refused: nothing but the error is told.
func refused(t *testing.T, s api.Screen, in api.State, b string, want api.Errno, what string) {
	t.Helper()
	got, now, e := Feed(s, in, b)
	if e != want || !reflect.DeepEqual(got, api.Screen{}) || !reflect.DeepEqual(now, api.State{}) {
		t.Errorf("%s: %+v, %+v, %d, want nothing, %d", what, got, now, e, want)
	}
}

// Whatever is told, even if it does nothing, or would put right what is wrong, as c and u might, Check's error is the answer, and nothing else.
func TestDoOfWrongScreens(t *testing.T) {
	for _, f := range slices.Concat(faults()...) {
		s := with(base(), f.set)
		for _, e := range events() {
			if got, errno := Do(s, e); errno != f.want || !reflect.DeepEqual(got, api.Screen{}) {
				t.Errorf("%+v on a screen with %s: %+v, %d, want nothing, %d", e, f.what, got, errno, f.want)
			}
		}
	}
	if got, e := Do(api.Screen{}, printed('x')); e != api.ErrSize || !reflect.DeepEqual(got, api.Screen{}) {
		t.Errorf("no screen: %+v, %d", got, e)
	}
}

// The screen's error goes ahead of those of the reader and of the bytes.
func TestFeedOfWrongScreens(t *testing.T) {
	long := strings.Repeat("x", api.MaxText+1)
	for _, f := range slices.Concat(faults()...) {
		s := with(base(), f.set)
		for _, in := range states() {
			refused(t, s, in, "x\x1bc", f.want, f.what)
		}
		refused(t, s, api.State{}, "", f.want, f.what+", and no bytes")
		refused(t, s, api.State{}, long, f.want, f.what+", and too many bytes")
		for _, in := range wrongStates() {
			refused(t, s, in, "", f.want, f.what+", and a wrong reader")
			refused(t, s, in, long, f.want, f.what+", and a wrong reader, and too many bytes")
		}
	}
}

// Of two faults the one that Check tells first is told.
func TestWrongTwice(t *testing.T) {
	all := faults()
	some := []api.Event{{}, printed('x'), escaped('c'), escaped('8'), commanded('J', 3), commanded('h'), systemic("2;x")}
	for i, group := range all {
		for _, f := range group {
			for _, g := range slices.Concat(all[i+1:]...) {
				s := with(with(base(), g.set), f.set)
				for _, e := range some {
					if _, errno := Do(s, e); errno != f.want {
						t.Errorf("%+v on a screen with %s, and %s: %d, want %d", e, f.what, g.what, errno, f.want)
					}
				}
				refused(t, s, api.State{}, "\x1bc", f.want, f.what+", and "+g.what)
			}
		}
	}
}

func TestFeedOfWrongStates(t *testing.T) {
	long := strings.Repeat("x", api.MaxText+1)
	for _, s := range []api.Screen{letters(), base()} {
		for _, in := range wrongStates() {
			refused(t, s, in, "", api.ErrForm, "a wrong reader")
			refused(t, s, in, "x\x18\x1bc", api.ErrForm, "a wrong reader, and bytes")
			refused(t, s, in, long, api.ErrForm, "a wrong reader, and too many bytes")
		}
		for _, in := range states() {
			for _, b := range []string{long, strings.Repeat("\x1b", api.MaxText+1), strings.Repeat("日", api.MaxText)} {
				refused(t, s, in, b, api.ErrMany, "too many bytes")
			}
		}
	}
}

// P2

// roomy: s, each list with spare room behind it that has something in it; and whether all of it, the spare room, too, is as it was.
func roomy(s api.Screen) (api.Screen, func() bool) {
	mark := api.Cell{R: 'M', S: red}
	whole := copyOf(s)
	whole.G.Cells = append(whole.G.Cells, mark, mark)
	whole.Tabs = append(whole.Tabs, true, false)
	var rows [][]api.Cell
	for _, row := range whole.Gone {
		rows = append(rows, append(row, mark, mark))
	}
	whole.Gone = append(slices.Clone(rows), []api.Cell{mark}, []api.Cell{mark})
	for i := range rows {
		whole.Gone[i] = rows[i][:len(rows[i])-2]
	}
	before, rowsBefore := copyOf(whole), copyOf(api.Screen{Gone: rows})
	in := whole
	in.G.Cells = in.G.Cells[:len(s.G.Cells)]
	in.Tabs = in.Tabs[:len(s.Tabs)]
	in.Gone = in.Gone[:len(s.Gone)]
	return in, func() bool {
		return equal(whole, before) && equal(api.Screen{Gone: rows}, rowsBefore)
	}
}

// roomyList: l, with spare room behind it that has something in it; and whether all of it is as it was.
func roomyList(l []int) ([]int, func() bool) {
	whole := append(slices.Clone(l), 77, 88, 99)
	before := slices.Clone(whole)
	return whole[:len(l)], func() bool { return slices.Equal(whole, before) }
}

// spoil writes over all that s has, the spare room, too.
func spoil(s api.Screen) {
	for _, row := range append([][]api.Cell{s.G.Cells}, s.Gone...) {
		row = row[:cap(row)]
		for i := range row {
			row[i] = api.Cell{R: '!'}
		}
	}
	tabs := s.Tabs[:cap(s.Tabs)]
	for i := range tabs {
		tabs[i] = !tabs[i]
	}
	clear(s.Gone[:cap(s.Gone)])
}

// screensToKeep: the cursor in the first row and in the last one, and nothing, something and all gone that may be.
func screensToKeep() []api.Screen {
	full := with(at(base(), 2, 2), func(s *api.Screen) { s.Gone = slices.Repeat(s.Gone, api.MaxHistory/2) })
	return []api.Screen{at(base(), 2, 1), at(base(), 0, 0), late(at(base(), 3, 2)), full, with(full, func(s *api.Screen) { s.Gone = nil })}
}

func TestDoOnlyReads(t *testing.T) {
	for _, s := range screensToKeep() {
		for _, e := range events() {
			in, same := roomy(s)
			params, sameParams := roomyList(e.Params)
			e.Params = params
			got, errno := Do(in, e)
			if errno != api.OK || !same() || !sameParams() {
				t.Errorf("%+v on %s changes what it was handed", e, told(s))
			}
			spoil(got)
			if !same() {
				t.Errorf("%+v on %s shares what it answers with what it was handed", e, told(s))
			}
		}
	}
	for _, f := range slices.Concat(faults()...) {
		for _, e := range events() {
			in, same := roomy(with(base(), f.set))
			if Do(in, e); !same() {
				t.Errorf("%+v on a screen with %s changes what it was handed", e, f.what)
			}
		}
	}
}

func TestFeedOnlyReads(t *testing.T) {
	for _, s := range screensToKeep() {
		for _, state := range states() {
			for _, b := range streams() {
				in, same := roomy(s)
				params, sameParams := roomyList(state.Params)
				state.Params = params
				got, now, e := Feed(in, state, b)
				if e != api.OK || !same() || !sameParams() {
					t.Errorf("%q from %+v on %s changes what it was handed", b, state, told(s))
				}
				spoil(got)
				clear(now.Params[:cap(now.Params)])
				if !same() || !sameParams() {
					t.Errorf("%q from %+v on %s shares what it answers with what it was handed", b, state, told(s))
				}
			}
		}
	}
}

// alone: no list of got shares memory with another one: each is written over, and its spare room, and the others stay.
func alone(t *testing.T, got api.Screen, what any) {
	t.Helper()
	for i, list := range append([][]api.Cell{got.G.Cells}, got.Gone...) {
		before, kept := copyOf(got), slices.Clone(list)
		room := list[:cap(list)]
		for j := range room {
			room[j] = api.Cell{R: '!'}
		}
		others := copyOf(got)
		if i == 0 {
			others.G.Cells = kept
		} else {
			others.Gone[i-1] = kept
		}
		if !equal(others, before) {
			t.Errorf("%+v: list %d shares memory with another one", what, i)
		}
		copy(list, kept)
	}
}

func TestListsOfAnAnswerShareNothing(t *testing.T) {
	s := at(of("abcd", "efgh", "ijkl"), 2, 1)
	s.Gone = [][]api.Cell{s.G.Cells[:4], s.G.Cells[:4], s.G.Cells[2:7]}
	for _, from := range []api.Screen{s, at(s, 0, 0), at(s, 3, 2)} {
		for _, e := range events() {
			got, _ := Do(from, e)
			alone(t, got, e)
		}
		for _, b := range streams() {
			got, _, _ := Feed(from, api.State{}, b)
			alone(t, got, b)
		}
	}
}

// Lists that have nothing in them may be nil or empty.
func TestEmptyLists(t *testing.T) {
	for _, s := range []api.Screen{at(base(), 2, 1), at(base(), 2, 2)} {
		none := with(s, func(s *api.Screen) { s.Gone = nil })
		empty := with(s, func(s *api.Screen) { s.Gone = make([][]api.Cell, 0, 4) })
		for _, e := range events() {
			if len(e.Params) > 0 {
				continue
			}
			a, errno := Do(none, e)
			e.Params = make([]int, 0, 4)
			b, other := Do(empty, e)
			if errno != api.OK || other != api.OK || !equal(a, b) {
				t.Errorf("%+v: %+v, %d and %+v, %d", e, a, errno, b, other)
			}
		}
		a, at, _ := Feed(none, api.State{At: api.InCommand}, "\nx")
		b, now, e := Feed(empty, api.State{At: api.InCommand, Params: []int{}}, "\nx")
		if e != api.OK || !equal(a, b) || !sameState(at, now) || put.Check(b) != api.OK {
			t.Errorf("%+v and %+v, %d", a, b, e)
		}
	}
}
