package term

import (
	"reflect"
	"slices"
	"strings"
	"testing"

	"trellis/api"
)

// fault: one thing that Check refuses, and its error.
type fault struct {
	what string
	want api.Errno
	set  func(*api.Term)
}

// faults in the order in which Check tells them, by groups: of those of one group none goes ahead of another.
func faults() [][]fault {
	mains := onScreen("Main", func(t *api.Term) *api.Screen { return &t.Main })
	others := onScreen("Other", func(t *api.Term) *api.Screen { return &t.Other })
	rest := [][]fault{
		{
			{"another width", api.ErrForm, func(t *api.Term) { t.Other = of("abc", "def", "ghi", "jkl") }},
			{"another height", api.ErrForm, func(t *api.Term) { t.Other = of("abcd", "efgh", "ijkl") }},
			{"a Main that is greater", api.ErrForm, func(t *api.Term) { t.Main = of("abcdef", "ghijkl", "mnopqr", "stuvwx", "yzabcd") }},
			{"as many cells in other rows", api.ErrForm, func(t *api.Term) { t.Main = of("abcdefgh", "ijklmnop") }},
			{"no such state", api.ErrForm, func(t *api.Term) { t.In.At = api.InSkip + 1 }},
			{"a state below 0", api.ErrForm, func(t *api.Term) { t.In.At = -1 }},
			{"a whole rune that waits", api.ErrForm, func(t *api.Term) { t.In = api.State{Left: "日"} }},
			{"numbers out of a command", api.ErrForm, func(t *api.Term) { t.In = api.State{Params: []int{1}} }},
			{"a number that is too great", api.ErrForm, func(t *api.Term) { t.In = api.State{At: api.InCommand, Params: []int{api.MaxParam + 1}} }},
			{"a text that is too long", api.ErrForm, func(t *api.Term) {
				t.In = api.State{At: api.InSystem, Text: strings.Repeat("x", api.MaxString+1)}
			}},
		}, {
			{"too many rows", api.ErrMany, func(t *api.Term) { t.History = slices.Repeat([][]api.Cell{{{R: 'a'}}}, api.MaxHistory+1) }},
			{"far too many rows, none of them one", api.ErrMany, func(t *api.Term) { t.History = make([][]api.Cell, 1000) }},
			{"too long a reply", api.ErrMany, func(t *api.Term) { t.Reply = strings.Repeat("r", api.MaxText+1) }},
			{"too long a reply of wide runes", api.ErrMany, func(t *api.Term) { t.Reply = strings.Repeat("日", api.MaxText/3+1) }},
		}, {
			{"a row without cells", api.ErrForm, func(t *api.Term) { t.History[0] = nil }},
			{"a row that is too long", api.ErrForm, func(t *api.Term) { t.History[1] = slices.Repeat([]api.Cell{{R: 'a'}}, api.MaxWide+1) }},
			{"a wrong rune in a row", api.ErrForm, func(t *api.Term) { t.History[1][0].R = '\t' }},
			{"a wrong style in a row", api.ErrForm, func(t *api.Term) { t.History[0][4].S.Bits = 128 }},
			{"a left half in a row", api.ErrForm, func(t *api.Term) { t.History[1] = t.History[1][:3] }},
			{"a right half in a row", api.ErrForm, func(t *api.Term) { t.History[1] = t.History[1][1:] }},
			{"a wrong row behind others", api.ErrForm, func(t *api.Term) { t.History = append(t.History, []api.Cell{{}}) }},
		},
	}
	return slices.Concat(mains, others, rest)
}

// onScreen: the faults of one of the screens; those of chapter 5 one by one of its groups, and then that something is gone.
func onScreen(name string, of func(*api.Term) *api.Screen) [][]fault {
	var groups [][]fault
	for _, f := range []struct {
		what string
		want api.Errno
		set  func(*api.Screen)
	}{
		{"no cells", api.ErrSize, func(s *api.Screen) { s.G = api.Grid{} }},
		{"a wrong rune", api.ErrRange, func(s *api.Screen) { s.G.Cells[0].R = '\n' }},
		{"a half alone", api.ErrForm, func(s *api.Screen) { s.G.Cells[len(s.G.Cells)-1].R = '日' }},
		{"X at W", api.ErrRange, func(s *api.Screen) { s.X = s.G.W }},
		{"late ahead of the last column", api.ErrForm, func(s *api.Screen) { s.X, s.Late = min(s.X, 2), true }},
		{"modes that are none", api.ErrRange, func(s *api.Screen) { s.Modes |= allModes + 1 }},
		{"no tabs", api.ErrForm, func(s *api.Screen) { s.Tabs = nil }},
		{"too many rows gone", api.ErrMany, func(s *api.Screen) { s.Gone = slices.Repeat([][]api.Cell{{{R: 'a'}}}, api.MaxHistory+1) }},
		{"a gone row that is none", api.ErrForm, func(s *api.Screen) { s.Gone = [][]api.Cell{{}} }},
		{"a gone row", api.ErrForm, func(s *api.Screen) { s.Gone = [][]api.Cell{{{R: 'a'}}} }},
	} {
		groups = append(groups, []fault{{name + " with " + f.what, f.want, func(t *api.Term) { f.set(of(t)) }}})
	}
	return groups
}

// refused: all calls tell the error, and nothing else; it goes ahead of those of what else they are given.
func refused(t *testing.T, x api.Term, want api.Errno, what string) {
	t.Helper()
	none := func(call string, got api.Term, e api.Errno) {
		if e != want || !reflect.DeepEqual(got, api.Term{}) {
			t.Errorf("%s of a terminal with %s: %+v, %d, want nothing, %d", call, what, got, e, want)
		}
	}
	if e := Check(x); e != want {
		t.Errorf("Check of a terminal with %s: %d, want %d", what, e, want)
	}
	for _, b := range []string{"", "x", "\x1bc\x1b[3J", strings.Repeat("x", api.MaxText+1)} {
		got, e := Feed(x, b)
		none("Feed", got, e)
	}
	got, reply, e := Take(x)
	if none("Take", got, e); reply != "" {
		t.Errorf("Take of a terminal with %s: %q", what, reply)
	}
	for _, size := range [][2]int{{4, 4}, {2, 2}, {0, 0}, {api.MaxWide + 1, 1}} {
		got, e := Resize(x, size[0], size[1])
		none("Resize", got, e)
	}
	if lines, e := Lines(x); e != want || lines != nil {
		t.Errorf("Lines of a terminal with %s: %q, %d, want %d", what, lines, e, want)
	}
	for _, text := range []string{"e", "", strings.Repeat("x", api.MaxText+1), "nowhere"} {
		if n, e := Find(x, text, 9); e != want || n != 0 {
			t.Errorf("Find in a terminal with %s: %d, %d, want %d", what, n, e, want)
		}
	}
}

func TestCheck(t *testing.T) {
	greatest := with(base(), func(x *api.Term) {
		x.History = slices.Repeat([][]api.Cell{slices.Repeat([]api.Cell{{R: 'a'}}, api.MaxWide), {{R: 'b', S: red}}}, api.MaxHistory/2)
		x.Reply = strings.Repeat("r", api.MaxText)
	})
	for _, x := range append(terms(), greatest, with(base(), func(x *api.Term) { x.Reply = "\x00\xff\x1b" })) {
		for _, in := range states() {
			if e := Check(reading(x, in)); e != api.OK {
				t.Errorf("%+v: %d", reading(x, in), e)
			}
		}
	}
	refused(t, api.Term{}, api.ErrSize, "nothing at all")
}

func TestWrongTerms(t *testing.T) {
	for _, f := range slices.Concat(faults()...) {
		refused(t, with(base(), f.set), f.want, f.what)
		refused(t, with(alt(base()), f.set), f.want, f.what+", the other one shown")
	}
}

// Of two faults the one that Check tells first is told.
func TestWrongTwice(t *testing.T) {
	all := faults()
	for i, group := range all {
		for _, f := range group {
			for _, g := range slices.Concat(all[i+1:]...) {
				refused(t, with(with(base(), g.set), f.set), f.want, f.what+", and "+g.what)
			}
		}
	}
}

func TestResizeToNoSize(t *testing.T) {
	for _, size := range [][2]int{{0, 1}, {1, 0}, {0, 0}, {-1, 4}, {4, -1}, {api.MaxWide + 1, 4}, {4, api.MaxHigh + 1}, {lowest, 4}, {4, lowest}, {most, 4}, {4, most}, {lowest, most}} {
		for _, x := range []api.Term{base(), alt(base())} {
			if got, e := Resize(x, size[0], size[1]); e != api.ErrSize || !reflect.DeepEqual(got, api.Term{}) {
				t.Errorf("%v: %+v, %d", size, got, e)
			}
		}
	}
}

// P2

// room: where the memory of a list lies, its spare room, too.
type room struct{ first, end uintptr }

// rooms of all lists in v.
func rooms(v reflect.Value) []room {
	var out []room
	switch v.Kind() {
	case reflect.Struct:
		for i := range v.NumField() {
			out = append(out, rooms(v.Field(i))...)
		}
	case reflect.Slice:
		if v.Cap() > 0 {
			out = append(out, room{v.Pointer(), v.Pointer() + uintptr(v.Cap())*v.Type().Elem().Size()})
		}
		for i := range v.Len() {
			out = append(out, rooms(v.Index(i))...)
		}
	}
	return out
}

// apart: no list of got shares memory with another one of it, or with one of what was handed in.
func apart(t *testing.T, from, got any, what string) {
	t.Helper()
	old, all := rooms(reflect.ValueOf(from)), rooms(reflect.ValueOf(got))
	for i, a := range all {
		for _, b := range append(slices.Clone(all[:i]), old...) {
			if a.first < b.end && b.first < a.end {
				t.Errorf("%s: list %d shares memory", what, i)
			}
		}
	}
}

// roomy: a copy of t, each list of which has spare room with something in it.
func roomy(t api.Term) api.Term {
	t = own(t)
	mark := api.Cell{R: 'M', S: red}
	rows := func(l [][]api.Cell) [][]api.Cell {
		for i, row := range l {
			l[i] = append(row, mark, mark)[:len(row)]
		}
		return append(l, []api.Cell{mark}, []api.Cell{mark})[:len(l)]
	}
	for _, s := range []*api.Screen{&t.Main, &t.Other} {
		s.G.Cells = append(s.G.Cells, mark, mark)[:len(s.G.Cells)]
		s.Tabs = append(s.Tabs, true, true)[:len(s.Tabs)]
		s.Gone = rows(s.Gone)
	}
	t.History = rows(t.History)
	t.In.Params = append(t.In.Params, 77, 88)[:len(t.In.Params)]
	return t
}

// whole: a copy of t, each list with what is in its spare room.
func whole(t api.Term) api.Term {
	rows := func(l [][]api.Cell) [][]api.Cell {
		l = slices.Clone(l[:cap(l)])
		for i, row := range l {
			l[i] = slices.Clone(row[:cap(row)])
		}
		return l
	}
	for _, s := range []*api.Screen{&t.Main, &t.Other} {
		s.G.Cells, s.Tabs, s.Gone = slices.Clone(s.G.Cells[:cap(s.G.Cells)]), slices.Clone(s.Tabs[:cap(s.Tabs)]), rows(s.Gone)
	}
	t.History, t.In.Params = rows(t.History), slices.Clone(t.In.Params[:cap(t.In.Params)])
	return t
}

// onlyReads: call changes nothing of what it is handed, and answers new memory.
func onlyReads(t *testing.T, x api.Term, call func(api.Term) any, what string) {
	t.Helper()
	from := roomy(x)
	before := whole(from)
	got := call(from)
	if !equal(whole(from), before) {
		t.Errorf("%s changes what it was handed", what)
	}
	apart(t, from, got, what)
}

// calls: all of them, each with something that makes it do much.
func calls() map[string]func(api.Term) any {
	all := map[string]func(api.Term) any{
		"Check": func(x api.Term) any { return Check(x) },
		"Lines": func(x api.Term) any { l, _ := Lines(x); return l },
		"Find":  func(x api.Term) any { n, _ := Find(x, "e", 9); return n },
		"Take":  func(x api.Term) any { x, _, _ = Take(x); return x },
	}
	for _, b := range append(streams(), longStream()) {
		all["Feed "+b] = func(x api.Term) any { x, _ = Feed(x, b); return x }
	}
	for _, size := range [][2]int{{4, 4}, {2, 1}, {9, 2}, {3, 9}, {17, 17}, {0, 0}} {
		all["Resize"+string(rune('0'+size[0]))] = func(x api.Term) any { x, _ = Resize(x, size[0], size[1]); return x }
	}
	return all
}

func TestOnlyReads(t *testing.T) {
	for what, call := range calls() {
		for _, x := range terms() {
			for _, in := range states() {
				onlyReads(t, reading(x, in), call, what)
			}
		}
		for _, f := range slices.Concat(faults()...) {
			onlyReads(t, with(base(), f.set), call, what+" of a terminal with "+f.what)
		}
	}
	for _, size := range [][2]int{{1, 1}, {17, 9}} {
		x, _ := New(size[0], size[1])
		apart(t, nil, x, "New")
	}
}

// What shares memory when it is handed in doesn't when it is answered.
func TestAnswersShareNothing(t *testing.T) {
	x := base()
	x.Other = x.Main
	x.History = [][]api.Cell{x.Main.G.Cells[:4], x.Main.G.Cells[:4], x.Main.G.Cells[8:11]}
	for what, call := range calls() {
		for _, from := range []api.Term{x, {Main: x.Main, Other: x.Other, Alt: true, History: x.History}} {
			apart(t, from, call(from), what)
		}
	}
	if !equal(x, with(x, func(*api.Term) {})) || sheetText(x.Main) != sheetText(base().Main) {
		t.Error("what was handed in is changed")
	}
}

// Lists that have nothing in them may be nil or empty.
func TestEmptyLists(t *testing.T) {
	none := with(base(), func(x *api.Term) { x.History = nil })
	empty := with(none, func(x *api.Term) {
		x.History, x.In.Params = make([][]api.Cell, 0, 4), make([]int, 0, 4)
		x.Main.Gone, x.Other.Gone = make([][]api.Cell, 0, 4), [][]api.Cell{}
	})
	if e := Check(empty); e != api.OK {
		t.Fatalf("Check: %d", e)
	}
	for what, call := range calls() {
		a, b := call(none), call(empty)
		if x, ok := a.(api.Term); ok && !equal(x, b.(api.Term)) || !ok && !reflect.DeepEqual(a, b) {
			t.Errorf("%s: %+v and %+v", what, a, b)
		}
	}
}
