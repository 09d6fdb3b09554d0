package screen

import (
	"fmt"
	"math"
	"reflect"
	"slices"
	"strings"
	"testing"
	"unicode/utf8"

	"trellis/api"
	"trellis/grid"
	"trellis/mode"
	"trellis/move"
	"trellis/parse"
	"trellis/put"
	"trellis/shift"
	"trellis/text"
	"trellis/wipe"
)

var (
	red   = api.Style{Fore: 4, Back: 2, Bits: api.Bold | api.Reverse}
	green = api.Style{Fore: 3, Back: 9, Bits: api.Under}
	wrong = api.Style{Fore: api.MaxColour + 1}
)

const (
	lowest   = math.MinInt
	most     = math.MaxInt
	allModes = 63
)

// of: a screen with these rows, which are green, and with something in all else, without any call of this package.
func of(rows ...string) api.Screen {
	g := api.Grid{H: len(rows)}
	for _, row := range rows {
		for _, r := range row {
			g.Cells = append(g.Cells, api.Cell{R: r, S: green})
			if text.Width(r) == 2 {
				g.Cells = append(g.Cells, api.Cell{S: green})
			}
		}
	}
	g.W = len(g.Cells) / g.H
	s := api.Screen{
		G:      g,
		S:      red,
		Bottom: g.H - 1,
		Modes:  api.Wrap | api.Hidden,
		Tabs:   make([]bool, g.W),
		K:      api.Kept{X: g.W - 1, Y: g.H - 1, S: green, Modes: api.Origin},
		Last:   '語',
		Title:  "a title 日",
		Gone:   [][]api.Cell{{{R: 'x', S: red}}, {{R: '日'}, {}}},
	}
	s.Tabs[g.W/2] = true
	return s
}

// base: what is right, and is made wrong by a fault.
func base() api.Screen { return of("ab日", "日cd", "efgh") }

// letters: a screen with the cursor in its midst, and tabs beside it.
func letters() api.Screen {
	return with(of("abcde", "fghij", "klmno", "pqrst", "uvwxy"), func(s *api.Screen) {
		s.X, s.Y, s.Last = 2, 2, 'z'
		s.Tabs = []bool{false, true, false, true, false}
	})
}

// with: s, and some of it otherwise; its lists are its own.
func with(s api.Screen, set func(*api.Screen)) api.Screen {
	s = copyOf(s)
	set(&s)
	return s
}

func at(s api.Screen, x, y int) api.Screen {
	return with(s, func(s *api.Screen) { s.X, s.Y = x, y })
}

// scrolling: s, in which the rows from top to bottom scroll.
func scrolling(s api.Screen, top, bottom int) api.Screen {
	return with(s, func(s *api.Screen) { s.Top, s.Bottom = top, bottom })
}

// having: s, with these modes and no others.
func having(s api.Screen, modes int) api.Screen {
	return with(s, func(s *api.Screen) { s.Modes = modes })
}

// late: s, its last column just written.
func late(s api.Screen) api.Screen {
	return with(s, func(s *api.Screen) { s.X, s.Late = s.G.W-1, true })
}

func named(s api.Screen, title string) api.Screen {
	return with(s, func(s *api.Screen) { s.Title = title })
}

// copyOf s, which shares nothing with it, with the lists that have nothing in them nil.
func copyOf(s api.Screen) api.Screen {
	s.G.Cells = append([]api.Cell(nil), s.G.Cells...)
	s.Tabs = append([]bool(nil), s.Tabs...)
	gone := s.Gone
	s.Gone = nil
	for _, row := range gone {
		s.Gone = append(s.Gone, append([]api.Cell(nil), row...))
	}
	return s
}

// equal: are two screens alike, whether their empty lists are nil or not?
func equal(a, b api.Screen) bool {
	same := slices.Equal(a.G.Cells, b.G.Cells) && slices.Equal(a.Tabs, b.Tabs) && slices.EqualFunc(a.Gone, b.Gone, slices.Equal[[]api.Cell])
	return same && reflect.DeepEqual(bare(a), bare(b))
}

// bare: s without its lists.
func bare(s api.Screen) api.Screen {
	s.G.Cells, s.Tabs, s.Gone = nil, nil, nil
	return s
}

// sameState: are two readers alike, whether their empty lists are nil or not?
func sameState(a, b api.State) bool {
	same := slices.Equal(a.Params, b.Params)
	a.Params, b.Params = nil, nil
	return same && reflect.DeepEqual(a, b)
}

// told: the lines of s, and where its cursor is.
func told(s api.Screen) string {
	lines, _ := grid.Lines(s.G)
	out := fmt.Sprintf("%s %d,%d", strings.Join(lines, "|"), s.X, s.Y)
	if s.Late {
		out += " late"
	}
	return out
}

// expect: nothing but what is wanted comes of it, and that is right. What tells of it is written only if it isn't so.
func expect(t *testing.T, got api.Screen, e api.Errno, want api.Screen, what string, about ...any) {
	t.Helper()
	if e != api.OK || !equal(got, want) {
		t.Fatalf("%s: %+v, %d, want %+v, 0", fmt.Sprintf(what, about...), got, e, want)
	}
	if e := put.Check(got); e != api.OK {
		t.Fatalf("%s: what is answered doesn't pass Check: %d", fmt.Sprintf(what, about...), e)
	}
}

// Events

func printed(r rune) api.Event       { return api.Event{Kind: api.Print, R: r} }
func controlled(r rune) api.Event    { return api.Event{Kind: api.Control, R: r} }
func escaped(final byte) api.Event   { return api.Event{Kind: api.Escape, Final: final} }
func systemic(text string) api.Event { return api.Event{Kind: api.System, Text: text} }

func commanded(final byte, params ...int) api.Event {
	return api.Event{Kind: api.Command, Final: final, Params: params}
}

// marked: e, with that mark.
func marked(mark byte, e api.Event) api.Event {
	e.Mark = mark
	return e
}

// between: e, with that Middle.
func between(middle string, e api.Event) api.Event {
	e.Middle = middle
	return e
}

// lists of Params: none, with nothing told, small ones and great ones, one and several.
func lists() [][]int {
	return [][]int{
		nil, {-1}, {0}, {1}, {2}, {3}, {4}, {5}, {6}, {7}, {25}, {api.MaxParam}, {lowest}, {most}, {-2},
		{-1, -1}, {-1, 2}, {2, -1}, {0, 0}, {1, 2}, {2, 3}, {3, 2}, {2, 2}, {2, 0}, {0, 3}, {1, 4, 7}, {31, 48, 5, 200, 7}, {38, 5, -1}, {38, 5, -2}, {1, -1, 4},
		{4, 4}, {6, 25, 7}, {2004, 1}, {99, 4, 6, -1, 7, 25, 2004, 1}, slices.Repeat([]int{4, 25, 6}, 6),
	}
}

// screens: each that is worth trying an event on.
func screens() []api.Screen {
	s := letters()
	return []api.Screen{
		s, late(s), late(at(s, 4, 4)), at(s, 0, 0), at(s, 0, 4),
		scrolling(s, 1, 3), scrolling(s, 2, 3), scrolling(s, 0, 2), scrolling(at(s, 3, 0), 1, 2), scrolling(at(s, 3, 4), 1, 2),
		scrolling(having(s, api.Origin|api.Wrap), 1, 3), having(s, 0), having(s, allModes), having(at(s, 4, 1), api.Insert),
		base(), at(base(), 1, 1), at(base(), 2, 0), late(base()), of("a"), of("ab"), of("a", "b"), of("日"),
		with(base(), func(s *api.Screen) { s.Gone, s.Last = nil, 0 }),
	}
}

// events: some of each kind.
func events() []api.Event {
	all := []api.Event{
		{}, printed('x'), printed('日'), printed('\u0301'), printed(-1), printed(utf8.RuneError),
		between(" ", escaped('c')), between(" ", commanded('J', 2)), marked('?', commanded('J', 2)), marked('>', commanded('h', 4)),
		systemic("2;new"), systemic("0;a;b"), systemic("2;"), systemic("1;x"), systemic(""),
	}
	for r := range rune(0x20) {
		all = append(all, controlled(r))
	}
	for _, final := range []byte("78DEHMcZ") {
		all = append(all, escaped(final))
	}
	for _, final := range []byte("@ABCDEFGHIJKLMPSTXZ`abdefgmrsuqz") {
		all = append(all, commanded(final), commanded(final, 2), commanded(final, -1, 3))
	}
	for _, final := range []byte("hl") {
		all = append(all, commanded(final, 4), marked('?', commanded(final, 1, 6, 7, 25, 2004)))
	}
	return all
}

// The model: the chapter's words, by calls of the layers that it names.

// wish: what an event is to do, by a call that doesn't fail.
type wish func(api.Screen) (api.Screen, api.Errno)

func grant(s api.Screen, wishes ...wish) api.Screen {
	for _, w := range wishes {
		s, _ = w(s)
	}
	return s
}

func wanted(s api.Screen, e api.Event) api.Screen {
	switch e.Kind {
	case api.Print:
		if text.Width(e.R) == 0 {
			return s
		}
		s, _ = put.Text(s, string(e.R))
	case api.Control:
		return grant(s, controls()[e.R]...)
	case api.Escape:
		if len(e.Middle) == 0 {
			return grant(s, escapes()[e.Final]...)
		}
	case api.System:
		for _, ahead := range []string{"0;", "2;"} {
			if strings.HasPrefix(e.Text, ahead) && len(e.Text) > 2 {
				s, _ = mode.Name(s, e.Text[2:])
			}
		}
	case api.Command:
		switch {
		case len(e.Middle) > 0:
		case e.Final == 'h' || e.Final == 'l':
			return wantedModes(s, e)
		case e.Mark == 0:
			return grant(s, commands(e.Params)[e.Final]...)
		}
	}
	return s
}

func one(do func(api.Screen, int) (api.Screen, api.Errno), n int) wish {
	return func(s api.Screen) (api.Screen, api.Errno) { return do(s, n) }
}

func controls() map[rune][]wish {
	return map[rune][]wish{
		0x8: {one(move.Left, 1)}, 0x9: {one(move.Tab, 1)}, 0xA: {shift.Feed}, 0xB: {shift.Feed}, 0xC: {shift.Feed}, 0xD: {move.Return},
	}
}

func escapes() map[byte][]wish {
	return map[byte][]wish{
		'7': {mode.Save}, '8': {mode.Restore}, 'D': {shift.Feed}, 'E': {move.Return, shift.Feed}, 'H': {move.SetTab}, 'M': {shift.Back}, 'c': {mode.Reset},
	}
}

func commands(params []int) map[byte][]wish {
	padded := append(slices.Clone(params), -1, -1)
	n, k, second, other := padded[0], padded[0], padded[1], padded[1]
	if n == -1 {
		n, k = 1, 0
	}
	if second == -1 {
		second, other = 1, 0
	}
	numbers := slices.Clone(params)
	for i, number := range numbers {
		if number == -1 {
			numbers[i] = 0
		}
	}
	to := func(s api.Screen) (api.Screen, api.Errno) { return move.To(s, n, second) }
	return map[byte][]wish{
		'@': {one(shift.Insert, n)},
		'A': {one(move.Up, n)},
		'B': {one(move.Down, n)}, 'e': {one(move.Down, n)},
		'C': {one(move.Right, n)}, 'a': {one(move.Right, n)},
		'D': {one(move.Left, n)},
		'E': {one(move.Down, n), move.Return},
		'F': {one(move.Up, n), move.Return},
		'G': {one(move.Column, n)}, '`': {one(move.Column, n)},
		'H': {to}, 'f': {to},
		'I': {one(move.Tab, n)},
		'J': {one(wipe.Screen, k)},
		'K': {one(wipe.Line, k)},
		'L': {one(shift.InsertLines, n)},
		'M': {one(shift.DeleteLines, n)},
		'P': {one(shift.Delete, n)},
		'S': {one(shift.Up, n)},
		'T': {one(shift.Down, n)},
		'X': {one(wipe.Chars, n)},
		'Z': {one(move.TabBack, n)},
		'b': {one(put.Again, n)},
		'd': {one(move.Row, n)},
		'g': {one(move.ClearTab, k)},
		'm': {func(s api.Screen) (api.Screen, api.Errno) { return mode.Look(s, numbers) }},
		'r': {func(s api.Screen) (api.Screen, api.Errno) { return shift.Region(s, k, other) }},
		's': {mode.Save},
		'u': {mode.Restore},
	}
}

func wantedModes(s api.Screen, e api.Event) api.Screen {
	bits := map[byte]map[int]int{0: {4: api.Insert}, '?': {1: api.Keypad, 6: api.Origin, 7: api.Wrap, 25: api.Hidden, 2004: api.Paste}}
	for _, n := range e.Params {
		if bit := bits[e.Mark][n]; bit != 0 {
			s, _ = mode.Set(s, bit, (e.Final == 'h') == (n != 25))
		}
	}
	return s
}

// hold Do of e against the model, on s.
func hold(t *testing.T, s api.Screen, e api.Event) {
	t.Helper()
	got, errno := Do(s, e)
	expect(t, got, errno, wanted(s, e), "%+v on %+v", e, s)
}

// P10.1

func TestModel(t *testing.T) {
	for _, s := range screens() {
		for final := range 256 {
			hold(t, s, escaped(byte(final)))
			for _, l := range lists() {
				hold(t, s, commanded(byte(final), l...))
			}
			hold(t, s, between(" ", escaped(byte(final))))
			hold(t, s, between("#", commanded(byte(final), 2)))
		}
		for r := rune(-2); r < 0x120; r++ {
			hold(t, s, controlled(r))
			hold(t, s, printed(r))
		}
		for _, final := range []byte("hl") {
			for _, l := range lists() {
				hold(t, s, marked('?', commanded(final, l...)))
			}
		}
	}
}

// With a Mark only h and l do something, with ? alone; with a Middle nothing does.
func TestMarksAndMiddles(t *testing.T) {
	some := [][]int{nil, {-1}, {1}, {4}, {6, 7, 25}, {2, 3}, {2004}}
	for _, s := range []api.Screen{letters(), base()} {
		for final := range 256 {
			for _, l := range some {
				e := commanded(byte(final), l...)
				for _, mark := range []byte{0, 1, ' ', '<', '=', '>', '?', '@', 0xFF} {
					hold(t, s, marked(mark, e))
					hold(t, s, marked(mark, between("!", e)))
				}
				for _, middle := range []string{" ", "#", "$'", "?", "\x00", "日", " the whole of it"} {
					hold(t, s, between(middle, e))
					hold(t, s, between(middle, escaped(byte(final))))
				}
			}
			if got, e := Do(s, marked('>', commanded(byte(final), 2))); e != api.OK || !equal(got, s) {
				t.Errorf("%q with the mark > does something: %s", rune(final), told(got))
			}
			if got, e := Do(s, between(" ", commanded(byte(final), 2))); e != api.OK || !equal(got, s) {
				t.Errorf("%q with a middle does something: %s", rune(final), told(got))
			}
		}
	}
}

// Kinds that are none tell nothing, whatever they have.
func TestOtherKinds(t *testing.T) {
	for _, kind := range []int{lowest, -1, 0, 6, 7, 256 + api.Print, 1<<32 + api.Command, most} {
		for _, e := range events() {
			e.Kind = kind
			for _, s := range []api.Screen{letters(), late(base())} {
				got, errno := Do(s, e)
				expect(t, got, errno, s, "%+v", e)
			}
		}
	}
}

// What an event of another kind would have doesn't matter.
func TestOtherFields(t *testing.T) {
	s := letters()
	for _, c := range []struct {
		e    api.Event
		want string
	}{
		{api.Event{Kind: api.Print, R: 'X', Final: 'c', Mark: '?', Middle: " ", Params: []int{2}, Text: "2;x"}, "abcde|fghij|klXno|pqrst|uvwxy 3,2"},
		{api.Event{Kind: api.Control, R: '\r', Final: 'c', Mark: '?', Middle: " ", Params: []int{2}, Text: "2;x"}, "abcde|fghij|klmno|pqrst|uvwxy 0,2"},
		{api.Event{Kind: api.Escape, R: 'X', Final: 'D', Mark: '?', Params: []int{2}, Text: "2;x"}, "abcde|fghij|klmno|pqrst|uvwxy 2,3"},
		{api.Event{Kind: api.Command, R: 'X', Final: 'D', Params: []int{2}, Text: "2;x"}, "abcde|fghij|klmno|pqrst|uvwxy 0,2"},
		{api.Event{Kind: api.System, R: 'X', Final: 'c', Mark: '?', Middle: " ", Params: []int{2}, Text: "2;x"}, "abcde|fghij|klmno|pqrst|uvwxy 2,2"},
	} {
		got, e := Do(s, c.e)
		title := s.Title
		if c.e.Kind == api.System {
			title = "x"
		}
		if told(got) != c.want || e != api.OK || got.Title != title {
			t.Errorf("%+v: %s, %d, title %q, want %s", c.e, told(got), e, got.Title, c.want)
		}
	}
}

func TestPrint(t *testing.T) {
	for _, c := range []struct {
		s    api.Screen
		r    rune
		want string
	}{
		{letters(), 'X', "abcde|fghij|klXno|pqrst|uvwxy 3,2"},
		{letters(), ' ', "abcde|fghij|kl no|pqrst|uvwxy 3,2"},
		{letters(), '日', "abcde|fghij|kl日o|pqrst|uvwxy 4,2"},
		{letters(), 0x1F600, "abcde|fghij|kl\U0001F600o|pqrst|uvwxy 4,2"},
		{letters(), utf8.RuneError, "abcde|fghij|kl\uFFFDno|pqrst|uvwxy 3,2"},
		{letters(), utf8.MaxRune, "abcde|fghij|kl\U0010FFFFno|pqrst|uvwxy 3,2"},
		{late(letters()), 'X', "abcde|fghij|klmno|Xqrst|uvwxy 1,3"},
		{at(letters(), 4, 2), 'X', "abcde|fghij|klmnX|pqrst|uvwxy 4,2 late"},
		{at(letters(), 4, 2), '日', "abcde|fghij|klmno|日rst|uvwxy 2,3"},
		{having(letters(), api.Insert), 'X', "abcde|fghij|klXmn|pqrst|uvwxy 3,2"},
		{having(at(letters(), 4, 2), 0), '日', "abcde|fghij|klmno|pqrst|uvwxy 4,2"},
		{at(base(), 1, 1), 'X', "ab日| Xcd|efgh 2,1"},
		{of("a"), '日', "a 0,0"},
	} {
		got, e := Do(c.s, printed(c.r))
		if told(got) != c.want || e != api.OK || got.Last != c.r && c.s.G.W > 1 && got.X != c.s.X {
			t.Errorf("%#x on %s: %s, %d, last %#x, want %s", c.r, told(c.s), told(got), e, got.Last, c.want)
		}
	}
}

// Runes that take no cell, and what is no rune, aren't printed, and aren't the last one then.
func TestPrintOfWhatTakesNoCell(t *testing.T) {
	for _, r := range []rune{0, 0x1F, 0x7F, 0x80, 0x9F, 0x300, 0x301, 0x200B, 0x202E, 0x20D0, 0xD800, 0xDFFF, 0xFE0F, 0xFEFF, -1, math.MinInt32, utf8.MaxRune + 1, math.MaxInt32} {
		for _, s := range screens() {
			got, e := Do(s, printed(r))
			expect(t, got, e, s, "Print of %#x", r)
		}
	}
}

func TestControls(t *testing.T) {
	for _, c := range []struct {
		r    rune
		want string
	}{
		{'\b', "abcde|fghij|klmno|pqrst|uvwxy 1,2"},
		{'\t', "abcde|fghij|klmno|pqrst|uvwxy 3,2"},
		{'\n', "abcde|fghij|klmno|pqrst|uvwxy 2,3"},
		{'\v', "abcde|fghij|klmno|pqrst|uvwxy 2,3"},
		{'\f', "abcde|fghij|klmno|pqrst|uvwxy 2,3"},
		{'\r', "abcde|fghij|klmno|pqrst|uvwxy 0,2"},
	} {
		if got, e := Do(letters(), controlled(c.r)); told(got) != c.want || e != api.OK {
			t.Errorf("%#x: %s, %d, want %s", c.r, told(got), e, c.want)
		}
		if got, _ := Do(late(letters()), controlled(c.r)); got.Late {
			t.Errorf("%#x: late then", c.r)
		}
	}
	for _, r := range []rune{'\n', '\v', '\f'} {
		if got, _ := Do(at(letters(), 1, 4), controlled(r)); told(got) != "fghij|klmno|pqrst|uvwxy| 1,4" || len(got.Gone) != 3 {
			t.Errorf("%#x at the bottom: %s, %d gone", r, told(got), len(got.Gone))
		}
	}
	for r := rune(-300); r < 1000; r++ {
		if r < '\b' || r > '\r' {
			got, e := Do(late(letters()), controlled(r))
			expect(t, got, e, late(letters()), "%#x", r)
		}
	}
}

func TestEscapes(t *testing.T) {
	for _, c := range []struct {
		s     api.Screen
		final byte
		want  string
	}{
		{letters(), 'D', "abcde|fghij|klmno|pqrst|uvwxy 2,3"},
		{at(letters(), 3, 4), 'D', "fghij|klmno|pqrst|uvwxy| 3,4"},
		{letters(), 'E', "abcde|fghij|klmno|pqrst|uvwxy 0,3"},
		{at(letters(), 3, 4), 'E', "fghij|klmno|pqrst|uvwxy| 0,4"},
		{letters(), 'M', "abcde|fghij|klmno|pqrst|uvwxy 2,1"},
		{at(letters(), 3, 0), 'M', "|abcde|fghij|klmno|pqrst 3,0"},
		{letters(), 'c', "|||| 0,0"},
		{letters(), '8', "abcde|fghij|klmno|pqrst|uvwxy 4,4"},
	} {
		if got, e := Do(c.s, escaped(c.final)); told(got) != c.want || e != api.OK {
			t.Errorf("%q: %s, %d, want %s", c.final, told(got), e, c.want)
		}
	}
	for final := range 256 {
		if !strings.ContainsRune("78DEHMc", rune(final)) {
			got, e := Do(late(letters()), escaped(byte(final)))
			expect(t, got, e, late(letters()), "%q", rune(final))
		}
	}
}

// What is kept, and the tabs, told by fields.
func TestSaveRestoreAndTabs(t *testing.T) {
	s := having(late(letters()), api.Wrap|api.Insert)
	for _, e := range []api.Event{escaped('7'), commanded('s'), commanded('s', 3, 4)} {
		got, errno := Do(s, e)
		expect(t, got, errno, with(s, func(s *api.Screen) { s.K = api.Kept{X: 4, Y: 2, S: red, Modes: api.Wrap} }), "%+v", e)
	}
	for _, e := range []api.Event{escaped('8'), commanded('u'), commanded('u', 3, 4)} {
		got, errno := Do(s, e)
		expect(t, got, errno, with(s, func(s *api.Screen) {
			s.X, s.Y, s.S, s.Modes, s.Late = 4, 4, green, api.Origin|api.Insert, false
		}), "%+v", e)
	}
	got, errno := Do(letters(), escaped('H'))
	expect(t, got, errno, with(letters(), func(s *api.Screen) { s.Tabs[2] = true }), "a tab")
	for _, c := range []struct {
		l    []int
		want []bool
	}{
		{nil, []bool{true, false, true}}, {[]int{-1}, []bool{true, false, true}}, {[]int{0}, []bool{true, false, true}},
		{[]int{1}, []bool{true, true, true}}, {[]int{2}, []bool{true, true, true}}, {[]int{3}, []bool{false, false, false}},
		{[]int{4}, []bool{true, true, true}}, {[]int{api.MaxParam}, []bool{true, true, true}}, {[]int{-1, 3}, []bool{true, false, true}}, {[]int{3, 0}, []bool{false, false, false}},
	} {
		s := with(of("abc"), func(s *api.Screen) { s.X, s.Tabs = 1, []bool{true, true, true} })
		if got, e := Do(s, commanded('g', c.l...)); !slices.Equal(got.Tabs, c.want) || e != api.OK {
			t.Errorf("g %v: %v, %d, want %v", c.l, got.Tabs, e, c.want)
		}
	}
}

func TestReset(t *testing.T) {
	s := having(late(scrolling(letters(), 1, 3)), allModes)
	got, e := Do(s, escaped('c'))
	fresh, _ := put.New(5, 5)
	expect(t, got, e, with(fresh, func(f *api.Screen) { f.Gone = s.Gone }), "c")
}

func TestTitles(t *testing.T) {
	was := letters().Title
	for _, c := range []struct{ text, want string }{
		{"2;x", "x"}, {"0;x", "x"}, {"2;a;b", "a;b"}, {"0;a;b", "a;b"}, {"2;;", ";"}, {"0;;;x", ";;x"}, {"2; x ", " x "}, {"0;日本", "日本"}, {"2;a\xffb", "a\uFFFDb"},
		{"2;a\u0301b\x7f", "ab"}, {"2;\x7f", ""}, {"0;2;x", "2;x"}, {"2;" + strings.Repeat("日", 30), strings.Repeat("日", api.MaxTitle)}, {"2;" + strings.Repeat("x", 5000), strings.Repeat("x", api.MaxTitle)},
		{"2;", was}, {"0;", was}, {"2", was}, {"0", was}, {"", was}, {";", was}, {";x", was}, {"2x", was}, {"2 ;x", was}, {" 2;x", was}, {"x2;x", was},
		{"1;x", was}, {"3;x", was}, {"4;x", was}, {"02;x", was}, {"00;x", was}, {"20;x", was}, {"22;x", was}, {"-0;x", was}, {"+2;x", was}, {"2:x", was}, {"x;2;y", was}, {"1;2;x", was}, {"x", was}, {"02", was},
	} {
		for _, s := range []api.Screen{letters(), late(letters())} {
			got, e := Do(s, systemic(c.text))
			expect(t, got, e, named(s, c.want), "System %q", c.text)
		}
	}
}

// Of n: what is told of none, -1, 0 and 1 is one thing; then 2, and what is greater than all there is.
func TestCountingCommands(t *testing.T) {
	const plain = "abcde|fghij|klmno|pqrst|uvwxy "
	row := func(row, place string) string { return "abcde|fghij|" + row + "|pqrst|uvwxy " + place }
	for _, c := range []struct {
		finals         string
		one, two, many string
	}{
		{"@", row("kl mn", "2,2"), row("kl  m", "2,2"), row("kl", "2,2")},
		{"A", plain + "2,1", plain + "2,0", plain + "2,0"},
		{"Be", plain + "2,3", plain + "2,4", plain + "2,4"},
		{"Ca", plain + "3,2", plain + "4,2", plain + "4,2"},
		{"D", plain + "1,2", plain + "0,2", plain + "0,2"},
		{"E", plain + "0,3", plain + "0,4", plain + "0,4"},
		{"F", plain + "0,1", plain + "0,0", plain + "0,0"},
		{"G`", plain + "0,2", plain + "1,2", plain + "4,2"},
		{"Hf", plain + "0,0", plain + "0,1", plain + "0,4"},
		{"I", plain + "3,2", plain + "4,2", plain + "4,2"},
		{"L", "abcde|fghij||klmno|pqrst 0,2", "abcde|fghij|||klmno 0,2", "abcde|fghij||| 0,2"},
		{"M", "abcde|fghij|pqrst|uvwxy| 0,2", "abcde|fghij|uvwxy|| 0,2", "abcde|fghij||| 0,2"},
		{"P", row("klno", "2,2"), row("klo", "2,2"), row("kl", "2,2")},
		{"S", "fghij|klmno|pqrst|uvwxy| 2,2", "klmno|pqrst|uvwxy|| 2,2", "|||| 2,2"},
		{"T", "|abcde|fghij|klmno|pqrst 2,2", "||abcde|fghij|klmno 2,2", "|||| 2,2"},
		{"X", row("kl no", "2,2"), row("kl  o", "2,2"), row("kl", "2,2")},
		{"Z", plain + "1,2", plain + "0,2", plain + "0,2"},
		{"b", row("klzno", "3,2"), row("klzzo", "4,2"), "zzzzz|zzzzz|zzzzz|zzzzz|zz 2,4"},
		{"d", plain + "2,0", plain + "2,1", plain + "2,4"},
	} {
		for _, final := range []byte(c.finals) {
			for _, l := range [][]int{nil, {}, {-1}, {0}, {1}, {-1, -1}, {-2}, {lowest}} {
				counts(t, c.one, final, l)
			}
			counts(t, c.two, final, []int{2})
			counts(t, c.two, final, []int{2, -1})
			counts(t, c.many, final, []int{api.MaxParam})
			counts(t, c.many, final, []int{most})
		}
	}
}

func counts(t *testing.T, want string, final byte, l []int) {
	t.Helper()
	if got, e := Do(letters(), commanded(final, l...)); told(got) != want || e != api.OK {
		t.Errorf("%q %v: %s, %d, want %s", final, l, told(got), e, want)
	}
}

func TestTo(t *testing.T) {
	const plain = "abcde|fghij|klmno|pqrst|uvwxy "
	for _, c := range []struct {
		l    []int
		want string
	}{
		{nil, "0,0"}, {[]int{3}, "0,2"}, {[]int{3, -1}, "0,2"}, {[]int{3, 0}, "0,2"}, {[]int{3, 1}, "0,2"}, {[]int{3, 4}, "3,2"}, {[]int{-1, 4}, "3,0"}, {[]int{0, 4}, "3,0"},
		{[]int{4, 2}, "1,3"}, {[]int{api.MaxParam, 2}, "1,4"}, {[]int{2, api.MaxParam}, "4,1"}, {[]int{2, 3, 4}, "2,1"}, {[]int{lowest, lowest}, "0,0"}, {[]int{most, most}, "4,4"},
	} {
		counts(t, plain+c.want, 'H', c.l)
		counts(t, plain+c.want, 'f', c.l)
	}
}

func TestChoosingCommands(t *testing.T) {
	const plain = "abcde|fghij|klmno|pqrst|uvwxy 2,2"
	for _, c := range []struct {
		final byte
		l     []int
		want  string
	}{
		{'J', nil, "abcde|fghij|kl|| 2,2"}, {'J', []int{-1}, "abcde|fghij|kl|| 2,2"}, {'J', []int{0}, "abcde|fghij|kl|| 2,2"}, {'J', []int{lowest}, "abcde|fghij|kl|| 2,2"}, {'J', []int{-1, 2}, "abcde|fghij|kl|| 2,2"},
		{'J', []int{1}, "||   no|pqrst|uvwxy 2,2"}, {'J', []int{2}, "|||| 2,2"}, {'J', []int{3}, plain}, {'J', []int{4}, plain}, {'J', []int{most}, plain},
		{'K', nil, "abcde|fghij|kl|pqrst|uvwxy 2,2"}, {'K', []int{-1}, "abcde|fghij|kl|pqrst|uvwxy 2,2"}, {'K', []int{0}, "abcde|fghij|kl|pqrst|uvwxy 2,2"}, {'K', []int{-9}, "abcde|fghij|kl|pqrst|uvwxy 2,2"},
		{'K', []int{1}, "abcde|fghij|   no|pqrst|uvwxy 2,2"}, {'K', []int{2}, "abcde|fghij||pqrst|uvwxy 2,2"}, {'K', []int{3}, plain}, {'K', []int{api.MaxParam}, plain},
	} {
		counts(t, c.want, c.final, c.l)
	}
	if got, _ := Do(letters(), commanded('J', 3)); len(got.Gone) != 0 {
		t.Error("J 3 leaves what is gone")
	}
	if got, _ := Do(letters(), commanded('J', 2)); len(got.Gone) != 2 {
		t.Error("J 2 takes what is gone")
	}
}

func TestLook(t *testing.T) {
	for _, c := range []struct {
		l    []int
		want api.Style
	}{
		{nil, api.Style{}}, {[]int{}, api.Style{}}, {[]int{-1}, api.Style{}}, {[]int{0}, api.Style{}}, {[]int{lowest}, api.Style{}},
		{[]int{4}, api.Style{Fore: 4, Back: 2, Bits: api.Bold | api.Reverse | api.Under}}, {[]int{99}, red}, {[]int{most}, red},
		{[]int{1, -1, 4}, api.Style{Bits: api.Under}}, {[]int{-1, 1}, api.Style{Bits: api.Bold}}, {[]int{1, -1}, api.Style{}}, {[]int{-1, -1, 31}, api.Style{Fore: 2}},
		{[]int{38, 5, -1}, api.Style{Fore: 1, Back: 2, Bits: api.Bold | api.Reverse}}, {[]int{48, 5, -1}, api.Style{Fore: 4, Back: 1, Bits: api.Bold | api.Reverse}},
		{[]int{38, 5, -2}, red}, {[]int{38, -1, 3}, api.Style{Bits: api.Italic}}, {[]int{38, 5, 200, 7}, api.Style{Fore: 201, Back: 2, Bits: api.Bold | api.Reverse}},
	} {
		s := late(letters())
		got, e := Do(s, commanded('m', c.l...))
		expect(t, got, e, with(s, func(s *api.Screen) { s.S = c.want }), "m %v", c.l)
	}
}

func TestRegion(t *testing.T) {
	s := late(scrolling(letters(), 1, 2))
	for _, c := range []struct {
		l           []int
		top, bottom int
	}{
		{nil, 0, 4}, {[]int{-1}, 0, 4}, {[]int{0}, 0, 4}, {[]int{1}, 0, 4}, {[]int{3}, 2, 4}, {[]int{4, -1}, 3, 4}, {[]int{4, 0}, 3, 4}, {[]int{4, 6}, 3, 4}, {[]int{2, api.MaxParam}, 1, 4},
		{[]int{-1, 3}, 0, 2}, {[]int{0, 3}, 0, 2}, {[]int{1, 2}, 0, 1}, {[]int{2, 4}, 1, 3}, {[]int{2, 4, 5}, 1, 3}, {[]int{lowest, most}, 0, 4}, {[]int{3, lowest}, 2, 4},
	} {
		got, e := Do(s, commanded('r', c.l...))
		expect(t, got, e, with(s, func(s *api.Screen) { s.X, s.Y, s.Late, s.Top, s.Bottom = 0, 0, false, c.top, c.bottom }), "r %v", c.l)
	}
	for _, l := range [][]int{{5}, {5, -1}, {6}, {api.MaxParam}, {most}, {2, 2}, {3, 2}, {5, 5}, {-1, 1}, {1, 1}} {
		got, e := Do(s, commanded('r', l...))
		expect(t, got, e, s, "r %v", l)
	}
}

// Modes of h and of l, from none and from all of them.
func TestModes(t *testing.T) {
	for _, c := range []struct {
		mark byte
		l    []int
		bits int // those that h sets and l clears
		back int // those that l sets and h clears
	}{
		{0, []int{4}, api.Insert, 0}, {'?', []int{1}, api.Keypad, 0}, {'?', []int{7}, api.Wrap, 0}, {'?', []int{25}, 0, api.Hidden}, {'?', []int{2004}, api.Paste, 0},
		{0, nil, 0, 0}, {'?', nil, 0, 0}, {0, []int{-1}, 0, 0}, {'?', []int{-1}, 0, 0}, {'?', []int{4}, 0, 0}, {0, []int{1, 6, 7, 25, 2004}, 0, 0}, {0, []int{0, 2, 3, 5, 20}, 0, 0},
		{'?', []int{0, 2, 3, 5, 8, 12, 24, 26, 1000, 1049, 2003, 2005, api.MaxParam, lowest, most}, 0, 0},
		{0, []int{-1, 4, 99}, api.Insert, 0}, {0, []int{4, 4}, api.Insert, 0}, {'?', []int{25, 25}, 0, api.Hidden},
		{'?', []int{1, 7, 25, 2004}, api.Keypad | api.Wrap | api.Paste, api.Hidden}, {'?', []int{2004, 25, 4, -1, 1}, api.Keypad | api.Paste, api.Hidden},
		{'<', []int{4}, 0, 0}, {'=', []int{4}, 0, 0}, {'>', []int{4}, 0, 0}, {'<', []int{1, 7}, 0, 0}, {'=', []int{25}, 0, 0}, {'>', []int{2004, 6}, 0, 0}, {' ', []int{4, 7}, 0, 0}, {'?' + 1, []int{4, 7}, 0, 0}, {0xFF, []int{4, 7}, 0, 0},
	} {
		for _, modes := range []int{0, allModes, api.Wrap, api.Hidden} {
			s := having(letters(), modes)
			got, e := Do(s, marked(c.mark, commanded('h', c.l...)))
			expect(t, got, e, having(s, modes&^c.back|c.bits), "%q %v h of %d", c.mark, c.l, modes)
			got, e = Do(s, marked(c.mark, commanded('l', c.l...)))
			expect(t, got, e, having(s, modes&^c.bits|c.back), "%q %v l of %d", c.mark, c.l, modes)
		}
	}
}

// Origin takes the cursor home; and without Wrap nothing is late.
func TestModesThatMove(t *testing.T) {
	s := late(scrolling(letters(), 1, 3))
	for _, c := range []struct {
		e       api.Event
		modes   int
		x, y    int
		late    bool
		isMoved bool
	}{
		{commanded('h', 6), api.Wrap | api.Origin, 0, 1, false, true},
		{commanded('l', 6), api.Wrap, 0, 0, false, true},
		{commanded('h', 6, 6), api.Wrap | api.Origin, 0, 1, false, true},
		{commanded('l', 7), 0, 4, 2, false, true},
		{commanded('h', 7), api.Wrap, 4, 2, true, false},
		{commanded('l', 25), api.Wrap | api.Hidden, 4, 2, true, false},
		{commanded('l', 7, 6, 25), api.Hidden, 0, 0, false, true},
	} {
		from := having(s, api.Wrap)
		got, e := Do(from, marked('?', c.e))
		expect(t, got, e, with(from, func(s *api.Screen) { s.Modes, s.X, s.Y, s.Late = c.modes, c.x, c.y, c.late }), "%+v", c.e)
		if equal(got, from) == (c.isMoved || c.modes != api.Wrap) {
			t.Errorf("%+v: %s", c.e, told(got))
		}
	}
}

// What follows is done to what came of the others.
func TestOneAfterTheOther(t *testing.T) {
	for _, c := range []struct{ bytes, want string }{
		{"\x1b[2;3Hx", "abcde|fgxij|klmno|pqrst|uvwxy 3,1"},
		{"\x1b[2;4r\x1b[?6h\x1b[1;2HX\x1b[9;9HY", "abcde|fXhij|klmno|pqrsY|uvwxy 4,3 late"},
		{"\x1b[4hXY\x1b[4lZ", "abcde|fghij|klXYZ|pqrst|uvwxy 4,2 late"},
		{"\x1b7\x1b[Hx\x1b8y", "xbcde|fghij|klyno|pqrst|uvwxy 3,2"},
		{"\x1b[s\x1b[HA\x1b[uB", "Abcde|fghij|klBno|pqrst|uvwxy 3,2"},
		{"日\x1b[2b", "abcde|fghij|kl日o|日日t|uvwxy 4,3"},
		{"\r\n\x1b[1mx\x1b[my", "abcde|fghij|klmno|xyrst|uvwxy 2,3"},
		{"\x1b[3g\x1b[2G\x1bH\r\tX", "abcde|fghij|kXmno|pqrst|uvwxy 2,2"},
		{"\x1bc", "|||| 0,0"},
		{"\x1bcab\r\ncd\x1b[5;1H\n\x1b[Hx", "xd|||| 1,0"},
		{"\x1b[ qX\x1b(BY\x1b[>1cZ", "abcde|fghij|klXYZ|pqrst|uvwxy 4,2 late"},
		{"", "abcde|fghij|klmno|pqrst|uvwxy 2,2"},
	} {
		s := having(letters(), api.Wrap)
		got, in, e := Feed(s, api.State{}, c.bytes)
		if told(got) != c.want || e != api.OK || !sameState(in, api.State{}) {
			t.Errorf("%q: %s, %+v, %d, want %s", c.bytes, told(got), in, e, c.want)
		}
	}
	got, _, _ := Feed(letters(), api.State{}, "\x1b[0;1;41mx\x1b]2;it;too\ay\x1b]0;z\x1b\\")
	if bold := (api.Style{Back: 2, Bits: api.Bold}); got.S != bold || got.G.Cells[12].S != bold || got.Title != "z" {
		t.Errorf("%+v", got)
	}
}

// P10.2

// states: one at least of each kind in which a reader may be.
func states() []api.State {
	return []api.State{
		{}, {Left: "\xe6"}, {Left: "\xe6\x97"}, {Left: "\xf0\x9f\x98"}, {At: api.InEscape},
		{At: api.InMiddle, Middle: " "}, {At: api.InMiddle, Middle: "#!"},
		{At: api.InCommand}, {At: api.InCommand, Params: []int{2}}, {At: api.InCommand, Params: []int{-1, 3}}, {At: api.InCommand, Mark: '?', Params: []int{25}}, {At: api.InCommand, Mark: '>'}, {At: api.InCommand, Middle: " "},
		{At: api.InCommand, Params: slices.Repeat([]int{1}, api.MaxParams)}, {At: api.InCommand, Params: []int{api.MaxParam}},
		{At: api.InSystem}, {At: api.InSystem, Text: "2;ti"}, {At: api.InSystem, Text: "2"}, {At: api.InSystem, Text: "0;title", Late: true}, {At: api.InSystem, Text: "2;" + strings.Repeat("x", api.MaxString-2)},
		{At: api.InSkip},
	}
}

// streams: bytes that make readers tell all there is, and end anywhere.
func streams() []string {
	return []string{
		"", "x", "A", "h", "\\", "\a", "\x1b", "\x1b\\", "\x18", "\x7f", "\xff", "日", "\x97\xa5", "\xa5", ";5H", "5;4Hxy", "tle\a", "m日\x1b[",
		"ab日c\r\nd\te\bf\x1b[2;2Hg\x1b[K\x1b[1;31mh\x1b[0;1;48;5;200mi\x1b]2;ti日\aj",
		"\x1b[?25l\x1b[?7l日本語abc\x1b[?7h\x1b[4hxy\x1b[4l\x1b[?6h\x1b[2;3r\n\n\nz\x1b[r\x1b7\x1b[5A\x1b8\x1bM\x1bE\x1bD",
		"\x1b[@\x1b[L\x1b[2M\x1b[P\x1b[S\x1b[T\x1b[X\x1b[3b\x1b[J\x1b[1J\x1b[2J\x1b[3J\x1b[g\x1bH\x1b[Z\x1b[I\x1b[`\x1b[d\x1b[e\x1b[a",
		"\x1b]0;un\x1b\\done\x1b]0;cut\x18off\x1b]2;ti\x1b[Hx\x1b[1\x1b[2Cy\x1b[;\x18z\x1b[:1mx\x1b(Bé\xc3",
		"a\u0301b\xe6\x97c\xff\xfe\U0001F600\xf0\x9f\x98\xf0\x9f\x98\x80", "\x1b[1;2;3;4;5;6;7;8;9;10;11;12;13;14;15;16;17mx\x1bcy", strings.Repeat("日a\n", 12), "\x1b[?1;6;25;2004h\x1b[>4;2m\x1b[ @\x1b[!p\xe6",
	}
}

// done: what comes of the events that a reader tells, by Do, and where the reader is then.
func done(s api.Screen, in api.State, b string) (api.Screen, api.State) {
	in, l, _ := parse.Feed(in, b)
	for _, e := range l {
		s, _ = Do(s, e)
	}
	return s, in
}

// fed: Feed does what Do does, event by event.
func fed(t *testing.T, s api.Screen, in api.State, b string) {
	t.Helper()
	want, at := done(s, in, b)
	got, now, e := Feed(s, in, b)
	if !sameState(now, at) {
		t.Fatalf("%q from %+v on %+v: the reader is at %+v, want %+v", b, in, s, now, at)
	}
	expect(t, got, e, want, "%q from %+v on %+v", b, in, s)
}

func TestFeed(t *testing.T) {
	for _, s := range screens() {
		for _, in := range states() {
			for _, b := range streams() {
				fed(t, s, in, b)
			}
		}
	}
}

// Where the reader is then, and what was done, told one by one.
func TestFeedFromAState(t *testing.T) {
	const plain = "abcde|fghij|klmno|pqrst|uvwxy 2,2"
	for _, c := range []struct {
		in    api.State
		bytes string
		want  string
		then  api.State
	}{
		{api.State{}, "", plain, api.State{}},
		{api.State{}, "x\xe6\x97", "abcde|fghij|klxno|pqrst|uvwxy 3,2", api.State{Left: "\xe6\x97"}},
		{api.State{Left: "\xe6\x97"}, "", plain, api.State{Left: "\xe6\x97"}},
		{api.State{Left: "\xe6\x97"}, "\xa5", "abcde|fghij|kl日o|pqrst|uvwxy 4,2", api.State{}},
		{api.State{Left: "\xe6\x97"}, "\r", "abcde|fghij|kl\uFFFD\uFFFDo|pqrst|uvwxy 0,2", api.State{}},
		{api.State{Left: "\xe6"}, "\x1b", "abcde|fghij|kl\uFFFDno|pqrst|uvwxy 3,2", api.State{At: api.InEscape}},
		{api.State{At: api.InEscape}, "M", "abcde|fghij|klmno|pqrst|uvwxy 2,1", api.State{}},
		{api.State{At: api.InEscape}, "[", plain, api.State{At: api.InCommand}},
		{api.State{At: api.InMiddle, Middle: "("}, "Bx", "abcde|fghij|klxno|pqrst|uvwxy 3,2", api.State{}},
		{api.State{At: api.InCommand}, "A", "abcde|fghij|klmno|pqrst|uvwxy 2,1", api.State{}},
		{api.State{At: api.InCommand, Params: []int{4}}, ";5", plain, api.State{At: api.InCommand, Params: []int{4, 5}}},
		{api.State{At: api.InCommand, Params: []int{4}}, ";5H", "abcde|fghij|klmno|pqrst|uvwxy 4,3", api.State{}},
		{api.State{At: api.InCommand, Params: []int{4}}, "\rH", "abcde|fghij|klmno|pqrst|uvwxy 0,3", api.State{}},
		{api.State{At: api.InCommand, Mark: '>', Params: []int{4}}, "H", plain, api.State{}},
		{api.State{At: api.InCommand, Middle: " "}, "A", plain, api.State{}},
		{api.State{At: api.InSystem, Text: "2;x"}, "y\r\n", plain, api.State{At: api.InSystem, Text: "2;xy"}},
		{api.State{At: api.InSystem, Text: "2;x", Late: true}, "Mz", "abcde|fgzij|klmno|pqrst|uvwxy 3,1", api.State{}},
		{api.State{At: api.InSkip}, "12", plain, api.State{At: api.InSkip}},
		{api.State{At: api.InSkip}, "mX", "abcde|fghij|klXno|pqrst|uvwxy 3,2", api.State{}},
	} {
		got, then, e := Feed(letters(), c.in, c.bytes)
		if told(got) != c.want || e != api.OK || !sameState(then, c.then) {
			t.Errorf("%q from %+v: %s, %+v, %d, want %s, %+v", c.bytes, c.in, told(got), then, e, c.want, c.then)
		}
	}
}

// repeated: s over and over, just so many bytes of it.
func repeated(s string, size int) string { return strings.Repeat(s, size/len(s)+1)[:size] }

func TestFeedOfTheGreatestLength(t *testing.T) {
	for _, b := range []string{"x", "\xff", "\xe6", "日", "日a", "\n", "\x1b[99b", "a\r\n", "\x1b[2;2Hx日", strings.Join(streams(), "")} {
		for _, s := range []api.Screen{letters(), base(), of("a")} {
			fed(t, s, api.State{}, repeated(b, api.MaxText))
		}
	}
	s, _ := put.New(5, 2)
	got, in, e := Feed(s, api.State{}, repeated("\xff", api.MaxText))
	if told(got) != "\uFFFD\uFFFD\uFFFD\uFFFD\uFFFD|\uFFFD\uFFFD\uFFFD\uFFFD\uFFFD 4,1 late" || len(got.Gone) != api.MaxHistory || e != api.OK || !sameState(in, api.State{}) {
		t.Errorf("wrong bytes: %s, %d, %+v", told(got), e, in)
	}
}

func TestFeedOfTheGreatestScreen(t *testing.T) {
	s := of(slices.Repeat([]string{"a" + strings.Repeat("日", api.MaxWide/2-1) + "b"}, api.MaxHigh)...)
	b := "\x1b[60;119Hxyz\x1b[9999;9999H日\x1b[30;1H\x1b[99999Lq\x1b[5S\x1b[2;50r\x1b[?6h\x1b[99d\n\x1b[9999b\x1b[1J"
	fed(t, s, api.State{}, b)
	got, _, e := Feed(s, api.State{}, repeated("x", api.MaxText))
	if e != api.OK || got.X != api.MaxText%api.MaxWide || got.Y != api.MaxText/api.MaxWide {
		t.Errorf("%d, %d, %d", got.X, got.Y, e)
	}
}

// P10.3

// pieces of b, fed one after the other.
func pieces(t *testing.T, s api.Screen, in api.State, l ...string) (api.Screen, api.State) {
	t.Helper()
	for _, b := range l {
		var e api.Errno
		s, in, e = Feed(s, in, b)
		if e != api.OK || put.Check(s) != api.OK || !parse.Check(in) {
			t.Fatalf("%q of %q: %d, a wrong screen or reader", b, l, e)
		}
	}
	return s, in
}

// cut b as these places say: what comes of it is as it was whole.
func cut(t *testing.T, s api.Screen, in api.State, b string, places ...int) {
	t.Helper()
	want, at, _ := Feed(s, in, b)
	var l []string
	last := 0
	for _, place := range append(places, len(b)) {
		l = append(l, b[last:place])
		last = place
	}
	got, now := pieces(t, s, in, l...)
	if !equal(got, want) || !sameState(now, at) {
		t.Fatalf("%q from %+v: %+v, %+v, want %+v, %+v", l, in, got, now, want, at)
	}
}

func TestCutIntoTwo(t *testing.T) {
	for _, s := range []api.Screen{letters(), base(), of("ab"), scrolling(having(letters(), allModes), 1, 3)} {
		for _, in := range states() {
			for _, b := range streams() {
				for i := range len(b) + 1 {
					cut(t, s, in, b, i)
				}
			}
		}
	}
}

func TestCutIntoMore(t *testing.T) {
	for _, s := range []api.Screen{letters(), base()} {
		for _, b := range streams() {
			var every []int
			for i := range len(b) + 1 {
				every = append(every, i)
				for j := i; j <= len(b); j++ {
					cut(t, s, api.State{}, b, i, j)
				}
			}
			for _, in := range states() {
				cut(t, s, in, b, every...)
			}
		}
	}
}

// Whatever is said, in whatever order, a screen is a right one, and cuts make no difference.
func TestOnAndOn(t *testing.T) {
	bits := strings.Split("\x1b[|\x1b]|\x1b|?|;|2|0|7|25|6|4|h|l|m|H|r|J|K|L|M|@|P|b|A|B|C|D|S|T|X|日|本|x|yz|\n|\r|\t|\b|\xe6|\x97|\xa5|\xff|\a|\x18|\x7f| |#|c|E|38;5;9|>|\\|2;t|u|s|g|d", "|")
	seed := uint32(1)
	next := func(n int) int {
		seed = seed*1664525 + 1013904223
		return int(seed>>8) % n
	}
	for _, s := range screens() {
		in := api.State{}
		for range 120 {
			var b strings.Builder
			var places []int
			for range 1 + next(30) {
				b.WriteString(bits[next(len(bits))])
				if next(3) == 0 {
					places = append(places, b.Len()-next(2))
				}
			}
			slices.Sort(places)
			cut(t, s, in, b.String(), places...)
			fed(t, s, in, b.String())
			s, in = done(s, in, b.String())
		}
	}
}
