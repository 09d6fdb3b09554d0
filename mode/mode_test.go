package mode

import (
	"fmt"
	"math"
	"reflect"
	"slices"
	"strings"
	"testing"
	"unicode/utf8"

	"trellis/api"
	"trellis/put"
	"trellis/style"
	"trellis/text"
)

var (
	red   = api.Style{Fore: 4, Back: 2, Bits: api.Bold | api.Reverse}
	green = api.Style{Fore: 3, Back: 9, Bits: api.Under}
	wrong = api.Style{Fore: api.MaxColour + 1}
)

const (
	lowest   = math.MinInt
	most     = math.MaxInt
	allModes = 63
)

// of: a screen with these rows, which are green, and with something in all else, without any call of this package.
func of(rows ...string) api.Screen {
	g := api.Grid{H: len(rows)}
	for _, row := range rows {
		for _, r := range row {
			g.Cells = append(g.Cells, api.Cell{R: r, S: green})
			if text.Width(r) == 2 {
				g.Cells = append(g.Cells, api.Cell{S: green})
			}
		}
	}
	g.W = len(g.Cells) / g.H
	s := api.Screen{
		G:      g,
		S:      red,
		Bottom: g.H - 1,
		Modes:  api.Wrap | api.Insert | api.Hidden,
		Tabs:   make([]bool, g.W),
		K:      api.Kept{X: g.W - 1, Y: g.H - 1, S: green, Modes: api.Origin},
		Last:   '語',
		Title:  "a title 日",
		Gone:   [][]api.Cell{{{R: 'x', S: red}}, {{R: '日'}, {}}},
	}
	s.Tabs[g.W/2] = true
	return s
}

// base: what is right, and is made wrong by a fault.
func base() api.Screen { return of("ab日", "日cd", "efgh") }

// with: s, and some of it otherwise; its lists are its own.
func with(s api.Screen, set func(*api.Screen)) api.Screen {
	s = copyOf(s)
	set(&s)
	return s
}

func at(s api.Screen, x, y int) api.Screen {
	return with(s, func(s *api.Screen) { s.X, s.Y = x, y })
}

// scrolling: s, in which the rows from top to bottom scroll.
func scrolling(s api.Screen, top, bottom int) api.Screen {
	return with(s, func(s *api.Screen) { s.Top, s.Bottom = top, bottom })
}

// having: s, with these modes and no others.
func having(s api.Screen, modes int) api.Screen {
	return with(s, func(s *api.Screen) { s.Modes = modes })
}

// late: s, its last column just written.
func late(s api.Screen) api.Screen {
	return with(s, func(s *api.Screen) { s.X, s.Late = s.G.W-1, true })
}

func inTime(s api.Screen) api.Screen {
	return with(s, func(s *api.Screen) { s.Late = false })
}

func named(s api.Screen, title string) api.Screen {
	return with(s, func(s *api.Screen) { s.Title = title })
}

func looking(s api.Screen, look api.Style) api.Screen {
	return with(s, func(s *api.Screen) { s.S = look })
}

// copyOf s, which shares nothing with it, with the lists that have nothing in them nil.
func copyOf(s api.Screen) api.Screen {
	s.G.Cells = append([]api.Cell(nil), s.G.Cells...)
	s.Tabs = append([]bool(nil), s.Tabs...)
	gone := s.Gone
	s.Gone = nil
	for _, row := range gone {
		s.Gone = append(s.Gone, append([]api.Cell(nil), row...))
	}
	return s
}

func equal(a, b api.Screen) bool { return reflect.DeepEqual(copyOf(a), copyOf(b)) }

// expect: nothing but what is wanted comes of it, and that is right.
func expect(t *testing.T, what string, got api.Screen, e api.Errno, want api.Screen) {
	t.Helper()
	if e != api.OK || !equal(got, want) {
		t.Fatalf("%s: %+v, %d, want %+v, 0", what, got, e, want)
	}
	if e := put.Check(got); e != api.OK {
		t.Fatalf("%s: what is answered doesn't pass Check: %d", what, e)
	}
}

// call of this package, and what the model makes of the same.
type call struct {
	name  string
	do    func(api.Screen) (api.Screen, api.Errno)
	model func(*model)
}

// setting: Set with each of these numbers, on and off.
func setting(numbers ...int) []call {
	var all []call
	for _, bits := range numbers {
		for _, on := range []bool{true, false} {
			all = append(all, call{
				fmt.Sprint("Set ", bits, " ", on),
				func(s api.Screen) (api.Screen, api.Errno) { return Set(s, bits, on) },
				func(m *model) { m.set(bits, on) },
			})
		}
	}
	return all
}

// looks: Look with each of these lists.
func looks(lists ...[]int) []call {
	var all []call
	for _, l := range lists {
		all = append(all, call{
			fmt.Sprint("Look ", l),
			func(s api.Screen) (api.Screen, api.Errno) { return Look(s, l) },
			func(m *model) { m.look(l) },
		})
	}
	return all
}

// names: Name with each of these texts.
func names(texts ...string) []call {
	var all []call
	for _, text := range texts {
		all = append(all, call{
			fmt.Sprintf("Name %q", text),
			func(s api.Screen) (api.Screen, api.Errno) { return Name(s, text) },
			func(m *model) { m.name(text) },
		})
	}
	return all
}

// plain: those that are given nothing but the screen.
func plain() []call {
	return []call{{"Save", Save, (*model).save}, {"Restore", Restore, (*model).restore}, {"Reset", Reset, (*model).reset}}
}

// calls: some of each.
func calls() []call {
	return slices.Concat(
		setting(lowest, -1, 0, api.Insert, api.Origin, api.Wrap, api.Origin|api.Wrap, api.Paste, allModes, 64, most),
		plain(),
		looks(nil, []int{1}, []int{0}, []int{31, 48, 5, 200, 7}, []int{lowest}, []int{most}),
		names("", "x", "日\n本\xff", strings.Repeat("é", api.MaxTitle+1)))
}

// The model: the chapter's words one by one, modes as numbers that are added and taken away.

type model struct{ api.Screen }

func (m *model) has(bit int) bool { return m.Modes/bit%2 == 1 }

func (m *model) set(bits int, on bool) {
	for i := range 6 {
		bit := 1 << i
		if bits>>i&1 == 0 {
			continue
		}
		switch {
		case on && !m.has(bit):
			m.Modes += bit
		case !on && m.has(bit):
			m.Modes -= bit
		}
		if bit == api.Origin {
			m.X, m.Y, m.Late = 0, 0, false
		}
		if bit == api.Origin && on {
			m.Y = m.Top
		}
	}
	if !m.has(api.Wrap) {
		m.Late = false
	}
}

func (m *model) save() {
	m.K = api.Kept{X: m.X, Y: m.Y, S: m.S}
	for _, bit := range []int{api.Origin, api.Wrap} {
		if m.has(bit) {
			m.K.Modes += bit
		}
	}
}

func (m *model) restore() {
	m.X, m.Y, m.S = m.K.X, m.K.Y, m.K.S
	for _, bit := range []int{api.Origin, api.Wrap} {
		if m.has(bit) {
			m.Modes -= bit
		}
		if m.K.Modes/bit%2 == 1 {
			m.Modes += bit
		}
	}
	m.Late = false
}

func (m *model) look(l []int) { m.S = style.Apply(m.S, l) }

func (m *model) name(t string) {
	m.Title = ""
	for _, r := range text.Clean(t) {
		if utf8.RuneCountInString(m.Title) < api.MaxTitle {
			m.Title += string(r)
		}
	}
}

func (m *model) reset() {
	gone := m.Gone
	m.Screen = fresh(m.G.W, m.G.H)
	m.Gone = gone
}

// fresh: a new screen, as chapter 5 tells it.
func fresh(w, h int) api.Screen {
	s := api.Screen{G: api.Grid{W: w, H: h}, Bottom: h - 1, Modes: api.Wrap, K: api.Kept{Modes: api.Wrap}}
	for range w * h {
		s.G.Cells = append(s.G.Cells, api.Cell{R: ' '})
	}
	for x := range w {
		s.Tabs = append(s.Tabs, x > 0 && x%8 == 0)
	}
	return s
}

// hold c against the model, on s.
func hold(t *testing.T, c call, s api.Screen) {
	t.Helper()
	m := &model{copyOf(s)}
	c.model(m)
	got, e := c.do(s)
	expect(t, fmt.Sprintf("%s of %+v", c.name, s), got, e, m.Screen)
}

// P9.1

func TestSet(t *testing.T) {
	for _, c := range []struct {
		modes, bits int
		on          bool
		want        int
	}{
		{0, 0, true, 0}, {0, 0, false, 0}, {5, 0, true, 5}, {5, 0, false, 5}, {allModes, 0, true, allModes}, {allModes, 0, false, allModes},
		{0, api.Insert, true, 1}, {0, api.Wrap, true, 4}, {0, api.Hidden, true, 8}, {0, api.Keypad, true, 16}, {0, api.Paste, true, 32},
		{allModes, api.Insert, false, 62}, {allModes, api.Wrap, false, 59}, {allModes, api.Hidden, false, 55}, {allModes, api.Keypad, false, 47}, {allModes, api.Paste, false, 31},
		{5, api.Insert, true, 5}, {5, api.Insert, false, 4}, {4, api.Insert, false, 4}, {4, api.Paste, false, 4}, {36, api.Paste, true, 36},
		{5, api.Insert | api.Hidden, true, 13}, {5, api.Insert | api.Hidden, false, 4}, {0, 61, true, 61}, {61, 61, true, 61}, {61, 61, false, 0}, {allModes, 61, false, 2},
		{4, 64, true, 4}, {4, 64, false, 4}, {4, 65, true, 5}, {5, 65, false, 4}, {4, 128, true, 4}, {12, 8 + 1<<40, false, 4}, {4, 8 + 1<<40, true, 12},
		{4, lowest, true, 4}, {4, lowest, false, 4}, {4, lowest + 8, true, 12}, {12, lowest + 8, false, 4}, {4, -64, true, 4}, {allModes, -64, false, allModes},
		{0, -32, true, 32}, {allModes, -32, false, 31}, {0, -3, true, 61}, {allModes, -3, false, 2}, {allModes, most - 2, false, 2}, {0, most - 2, true, 61},
	} {
		for x := range 4 {
			for _, top := range []int{0, 1} {
				s := scrolling(at(having(base(), c.modes), x, 1), top, 2)
				got, e := Set(s, c.bits, c.on)
				expect(t, fmt.Sprintf("Set %d %t of %d at %d, Top %d", c.bits, c.on, c.modes, x, top), got, e, having(s, c.want))
			}
		}
	}
}

// With Origin among the bits the cursor goes to the first row, of the screen or of those that scroll, even if Origin is as it was.
func TestSetOrigin(t *testing.T) {
	for _, c := range []struct {
		modes, bits int
		on          bool
		want        int
	}{
		{api.Wrap, api.Origin, true, 6}, {6, api.Origin, true, 6}, {6, api.Origin, false, 4}, {api.Wrap, api.Origin, false, 4},
		{4, api.Origin | api.Insert, true, 7}, {7, api.Origin | api.Insert, false, 4},
		{4, api.Origin | api.Wrap, true, 6}, {6, api.Origin | api.Wrap, false, 0}, {0, api.Origin | api.Wrap, true, 6},
		{0, allModes, true, allModes}, {allModes, allModes, false, 0}, {allModes, allModes, true, allModes}, {0, allModes, false, 0},
		{0, -1, true, allModes}, {allModes, -1, false, 0}, {0, most, true, allModes}, {allModes, most, false, 0},
		{0, -2, true, 62}, {allModes, -2, false, 1}, {4, 66, true, 6}, {6, 66, false, 4}, {4, lowest + 2, true, 6}, {6, lowest + 2, false, 4},
	} {
		for _, region := range [][2]int{{0, 2}, {0, 1}, {1, 2}} {
			for y := range 3 {
				for x := range 5 {
					s := scrolling(at(having(base(), c.modes), min(x, 3), y), region[0], region[1])
					if x == 4 && c.modes&api.Wrap != 0 {
						s = late(s)
					}
					row := 0
					if c.on {
						row = region[0]
					}
					got, e := Set(s, c.bits, c.on)
					expect(t, fmt.Sprintf("Set %d %t of %d at %d, %d, Top %d", c.bits, c.on, c.modes, x, y, region[0]), got, e, at(inTime(having(s, c.want)), 0, row))
				}
			}
		}
	}
}

// Late stays where Wrap does and Origin isn't told; X stays without it.
func TestSetLate(t *testing.T) {
	for _, c := range []struct {
		modes, bits int
		on          bool
		want        int
		late        bool
	}{
		{4, 0, true, 4, true}, {4, 0, false, 4, true}, {4, 64, false, 4, true}, {4, -64, false, 4, true}, {4, lowest, true, 4, true},
		{4, api.Wrap, true, 4, true}, {4, api.Wrap, false, 0, false}, {allModes, api.Wrap, true, allModes, true}, {allModes, api.Wrap, false, 59, false},
		{6, api.Wrap, true, 6, true}, {6, api.Wrap, false, 2, false}, {6, api.Insert, true, 7, true},
		{5, api.Insert, false, 4, true}, {4, api.Insert, true, 5, true}, {4, api.Hidden | api.Paste, true, 44, true}, {44, api.Hidden | api.Paste, false, 4, true},
		{5, api.Insert | api.Wrap, true, 5, true}, {5, api.Insert | api.Wrap, false, 0, false}, {4, 68, false, 0, false}, {4, 61, true, 61, true}, {allModes, 61, false, 2, false},
	} {
		for y := range 3 {
			for _, s := range []api.Screen{at(base(), 0, y), scrolling(at(base(), 0, y), 1, 2)} {
				s = late(having(s, c.modes))
				got, e := Set(s, c.bits, c.on)
				want := with(having(s, c.want), func(s *api.Screen) { s.Late = c.late })
				expect(t, fmt.Sprintf("Set %d %t of %d, late", c.bits, c.on, c.modes), got, e, want)
			}
		}
	}
}

// What is printed behind it goes as the modes say: a screen that was late, and isn't, has its last column overwritten.
func TestPrintBehindSet(t *testing.T) {
	s, _ := put.New(4, 2)
	s, _ = put.Text(s, "abcd")
	for _, c := range []struct {
		bits int
		on   bool
		want string
	}{
		{api.Hidden, true, "abcdx   "}, {api.Wrap, true, "abcdx   "}, {api.Wrap, false, "abcx    "}, {api.Origin, true, "xbcd    "}, {api.Origin, false, "xbcd    "}, {api.Insert, true, "abcdx   "}, {api.Insert | api.Origin, true, "xabc    "},
	} {
		got, _ := Set(s, c.bits, c.on)
		got, e := put.Text(got, "x")
		if text := textOf(got); e != api.OK || text != c.want {
			t.Errorf("Set %d %t: %q, %d, want %q", c.bits, c.on, text, e, c.want)
		}
	}
}

func textOf(s api.Screen) string {
	var out []rune
	for _, c := range s.G.Cells {
		out = append(out, c.R)
	}
	return string(out)
}

// P9.2

func TestSave(t *testing.T) {
	for _, c := range []struct{ modes, want int }{
		{0, 0}, {api.Origin, api.Origin}, {api.Wrap, api.Wrap}, {api.Origin | api.Wrap, api.Origin | api.Wrap}, {allModes, api.Origin | api.Wrap},
		{api.Insert, 0}, {api.Hidden, 0}, {api.Keypad, 0}, {api.Paste, 0}, {57, 0}, {59, api.Origin}, {61, api.Wrap}, {api.Insert | api.Wrap, api.Wrap}, {api.Paste | api.Origin, api.Origin},
	} {
		for y := range 3 {
			for x := range 4 {
				for _, look := range []api.Style{{}, red, {Fore: 256, Back: 256, Bits: 127}} {
					s := looking(at(having(base(), c.modes), x, y), look)
					want := with(s, func(s *api.Screen) { s.K = api.Kept{X: x, Y: y, S: look, Modes: c.want} })
					got, e := Save(s)
					expect(t, fmt.Sprintf("Save of modes %d at %d, %d", c.modes, x, y), got, e, want)
				}
			}
		}
	}
}

// Late isn't kept, and stays as it is.
func TestSaveLate(t *testing.T) {
	for y := range 3 {
		s := late(at(base(), 0, y))
		got, e := Save(s)
		expect(t, "Save, late", got, e, with(s, func(s *api.Screen) { s.K = api.Kept{X: 3, Y: y, S: red, Modes: api.Wrap} }))
	}
}

func TestRestore(t *testing.T) {
	for _, c := range []struct{ modes, kept, want int }{
		{0, 0, 0}, {0, api.Origin, 2}, {0, api.Wrap, 4}, {0, api.Origin | api.Wrap, 6},
		{6, 0, 0}, {6, api.Origin, 2}, {6, api.Wrap, 4}, {6, api.Origin | api.Wrap, 6}, {2, api.Wrap, 4}, {4, api.Origin, 2},
		{allModes, 0, 57}, {allModes, api.Origin, 59}, {allModes, api.Wrap, 61}, {allModes, api.Origin | api.Wrap, allModes},
		{57, 0, 57}, {57, api.Origin, 59}, {57, api.Wrap, 61}, {57, api.Origin | api.Wrap, allModes},
		{api.Insert, api.Wrap, 5}, {api.Insert | api.Origin, api.Wrap, 5}, {api.Paste | api.Wrap, api.Origin, 34},
	} {
		for y := range 3 {
			for x := range 4 {
				for _, look := range []api.Style{{}, green, {Fore: 256, Back: 256, Bits: 127}} {
					k := api.Kept{X: x, Y: y, S: look, Modes: c.kept}
					for _, from := range []api.Screen{at(base(), 0, 0), at(base(), 2, 1), scrolling(at(base(), 3, 2), 1, 2)} {
						s := with(having(from, c.modes), func(s *api.Screen) { s.K = k })
						want := looking(at(having(s, c.want), x, y), look)
						got, e := Restore(s)
						expect(t, fmt.Sprintf("Restore of %+v at %d, %d, modes %d", k, s.X, s.Y, c.modes), got, e, want)
					}
				}
			}
		}
	}
}

// Late is false behind Restore, wherever it goes: in the last column with Wrap, too.
func TestRestoreLate(t *testing.T) {
	for x := range 4 {
		for _, kept := range []int{0, api.Origin, api.Wrap, api.Origin | api.Wrap} {
			s := with(late(at(base(), 0, 1)), func(s *api.Screen) { s.K = api.Kept{X: x, Y: 1, S: red, Modes: kept} })
			want := with(s, func(s *api.Screen) { s.X, s.Late, s.Modes = x, false, api.Insert|api.Hidden|kept })
			got, e := Restore(s)
			expect(t, fmt.Sprintf("Restore to %d, modes %d, late", x, kept), got, e, want)
		}
	}
}

// A new screen has the first cell, no look, and Wrap to restore.
func TestRestoreOfANewScreen(t *testing.T) {
	s, _ := put.New(6, 2)
	got, e := Restore(s)
	expect(t, "Restore of a new screen", got, e, s)
	s, _ = put.Text(s, "abcdefghijkl")
	s, _ = Look(s, []int{1, 41})
	s, _ = Set(s, api.Wrap, false)
	s, _ = Set(s, api.Origin|api.Keypad, true)
	s = at(s, 3, 1)
	got, e = Restore(s)
	expect(t, "Restore of a screen that was changed", got, e, looking(at(having(s, api.Wrap|api.Keypad), 0, 0), api.Style{}))
}

// What was saved is there again after whatever else was done; what goes with no cursor stays as that made it. It may be restored again.
func TestSaveAndRestore(t *testing.T) {
	for _, modes := range []int{0, api.Origin, api.Wrap, api.Origin | api.Wrap, allModes} {
		for x := range 4 {
			s := scrolling(at(having(base(), modes), x, 2), 1, 2)
			saved, _ := Save(s)
			then, _ := Look(saved, []int{0, 7, 33})
			then, _ = Set(then, api.Origin, modes&api.Origin == 0)
			then, _ = Set(then, api.Wrap, modes&api.Wrap == 0)
			then, _ = Set(then, api.Insert|api.Paste, modes&api.Paste == 0)
			then, _ = put.Text(then, "z日語zz")
			then, _ = Name(then, "another")
			want := looking(at(inTime(having(then, modes&6|then.Modes&^6)), x, 2), red)
			got, e := Restore(then)
			expect(t, "Restore of what was saved", got, e, want)
			again, _ := Look(got, nil)
			again, _ = Set(again, api.Origin|api.Wrap, modes&api.Wrap == 0)
			got, e = Restore(again)
			expect(t, "Restore once more", got, e, want)
		}
	}
}

// Save and Restore, one behind the other, do nothing but to K and Late.
func TestRestoreAtOnce(t *testing.T) {
	for modes := range allModes + 1 {
		for _, s := range screens(having(base(), modes)) {
			got, _ := Save(s)
			got, e := Restore(got)
			want := with(s, func(s *api.Screen) { s.K, s.Late = api.Kept{X: s.X, Y: s.Y, S: s.S, Modes: modes & 6}, false })
			expect(t, "Save and Restore", got, e, want)
		}
	}
}

// P9.3

func TestLook(t *testing.T) {
	none := api.Style{}
	for _, c := range []struct {
		from api.Style
		l    []int
		want api.Style
	}{
		{red, nil, none}, {red, []int{}, none}, {none, nil, none}, {red, []int{0}, none}, {red, []int{-1}, none}, {red, []int{lowest}, none},
		{none, []int{1}, api.Style{Bits: api.Bold}}, {none, []int{9}, api.Style{Bits: api.Strike}}, {none, []int{1, 41}, api.Style{Back: 2, Bits: api.Bold}},
		{red, []int{4}, api.Style{Fore: 4, Back: 2, Bits: api.Bold | api.Reverse | api.Under}}, {red, []int{22}, api.Style{Fore: 4, Back: 2, Bits: api.Reverse}},
		{red, []int{27, 39}, api.Style{Back: 2, Bits: api.Bold}}, {red, []int{49}, api.Style{Fore: 4, Bits: api.Bold | api.Reverse}},
		{red, []int{38, 5, 255}, api.Style{Fore: 256, Back: 2, Bits: api.Bold | api.Reverse}}, {red, []int{48, 5, 0}, api.Style{Fore: 4, Back: 1, Bits: api.Bold | api.Reverse}},
		{red, []int{0, 97, 107}, api.Style{Fore: 16, Back: 16}}, {red, []int{3, 0}, none},
		{red, []int{6}, red}, {red, []int{8, 21, 28, 50, 98, 108}, red}, {red, []int{most}, red}, {red, []int{38, 5, 256}, red}, {red, []int{38, 5}, api.Style{Fore: 4, Back: 2, Bits: api.Bold | api.Reverse | api.Blink}}, {red, []int{1, 7}, red},
		{none, append(slices.Repeat([]int{1, 6, 31}, 3000), 4, 45), api.Style{Fore: 2, Back: 6, Bits: api.Bold | api.Under}},
	} {
		for _, s := range screens(base()) {
			s = looking(s, c.from)
			got, e := Look(s, c.l)
			expect(t, fmt.Sprintf("Look %v", c.l), got, e, looking(s, c.want))
		}
	}
}

// The list is only read, and what stands behind it doesn't count.
func TestLookOnlyReads(t *testing.T) {
	whole := []int{1, 38, 5, 7, 31, 0}
	for n := range whole {
		before := slices.Clone(whole)
		got, e := Look(base(), whole[:n])
		again, _ := Look(base(), slices.Clone(whole[:n]))
		if e != api.OK || !slices.Equal(whole, before) || !equal(got, again) {
			t.Errorf("Look %v: %+v, %d, and the list is %v", whole[:n], got.S, e, whole)
		}
	}
}

func TestName(t *testing.T) {
	long := strings.Repeat("0123456789", 2)
	for _, c := range []struct{ t, want string }{
		{"", ""}, {"a", "a"}, {" a b ", " a b "}, {"日本", "日本"}, {"a\nb", "ab"}, {"\t\x00\x1b\x7f\u0085", ""}, {"e\u0301x\u200b\ufeff", "ex"},
		{"\xff", "\ufffd"}, {"a\xe6\x97b", "a\ufffd\ufffdb"}, {"\xed\xa0\x80", "\ufffd\ufffd\ufffd"}, {"\ufffd", "\ufffd"}, {"\U0010ffff", "\U0010ffff"}, {"\xf4\x90\x80\x80", "\ufffd\ufffd\ufffd\ufffd"},
		{long[1:], long[1:]}, {long, long}, {long + "x", long}, {"x" + long, "x" + long[:19]}, {long + "\n", long}, {"\n" + long, long}, {"\n" + long + "x", long}, {long + "日", long}, {long[1:] + "日x", long[1:] + "日"},
		{"a\nb12345678901234567890", "ab123456789012345678"}, {strings.Repeat("a\n", 20) + "b", strings.Repeat("a", 20)}, {strings.Repeat("\n", 5000) + "x", "x"},
		{strings.Repeat("日", 19), strings.Repeat("日", 19)}, {strings.Repeat("日", 20), strings.Repeat("日", 20)}, {strings.Repeat("日", 21), strings.Repeat("日", 20)}, {strings.Repeat("x日", 11), strings.Repeat("x日", 10)},
		{strings.Repeat("\xff", 20), strings.Repeat("\ufffd", 20)}, {strings.Repeat("\xff", 21), strings.Repeat("\ufffd", 20)}, {long[1:] + "\xe6\x97", long[1:] + "\ufffd"}, {long + "\xff", long},
		{strings.Repeat(long, 50000), long}, {strings.Repeat("é", api.MaxText+1), strings.Repeat("é", 20)},
	} {
		for _, s := range screens(base()) {
			for _, title := range []string{"", "before", strings.Repeat("日", api.MaxTitle)} {
				s := named(s, title)
				got, e := Name(s, c.t)
				expect(t, fmt.Sprintf("Name %.60q", c.t), got, e, named(s, c.want))
			}
		}
	}
}

// Everything is set that may be, and nothing but what is gone is left of it.
func TestReset(t *testing.T) {
	full := base()
	full.X, full.Y, full.Late, full.Top, full.Modes = 3, 2, true, 1, allModes
	full.Tabs = []bool{true, true, true, true}
	full.K = api.Kept{X: 2, Y: 1, S: green, Modes: api.Origin | api.Wrap}
	want := api.Screen{
		G:      api.Grid{W: 4, H: 3, Cells: slices.Repeat([]api.Cell{{R: ' '}}, 12)},
		Bottom: 2,
		Modes:  api.Wrap,
		Tabs:   make([]bool, 4),
		K:      api.Kept{Modes: api.Wrap},
		Gone:   [][]api.Cell{{{R: 'x', S: red}}, {{R: '日'}, {}}},
	}
	got, e := Reset(full)
	expect(t, "Reset of a full screen", got, e, want)
	got, e = Reset(got)
	expect(t, "Reset of what was reset", got, e, want)
	full.Gone, want.Gone = nil, nil
	got, e = Reset(full)
	expect(t, "Reset with nothing gone", got, e, want)
}

// What is gone stays, as wide as it is, and however many rows it has.
func TestResetKeepsWhatIsGone(t *testing.T) {
	rows := [][]api.Cell{{{R: 'x', S: red}}, slices.Repeat([]api.Cell{{R: 'y', S: green}}, api.MaxWide), {{R: '日', S: green}, {S: green}}}
	for n := range api.MaxHistory + 1 {
		s := with(base(), func(s *api.Screen) {
			s.Gone = nil
			for i := range n {
				s.Gone = append(s.Gone, slices.Clone(rows[i%3]))
			}
		})
		want := with(fresh(4, 3), func(f *api.Screen) { f.Gone = s.Gone })
		got, e := Reset(s)
		expect(t, fmt.Sprintf("Reset, %d rows gone", n), got, e, want)
	}
}

// The size stays, and the tabs are those of a new screen of it.
func TestResetOfAllSizes(t *testing.T) {
	sizes := [][2]int{{api.MaxWide, api.MaxHigh}, {api.MaxWide, 1}, {1, api.MaxHigh}, {64, 2}, {65, 2}}
	for w := 1; w < 20; w++ {
		for h := 1; h < 5; h++ {
			sizes = append(sizes, [2]int{w, h})
		}
	}
	for _, size := range sizes {
		w, h := size[0], size[1]
		s := of(slices.Repeat([]string{strings.Repeat("a", w)}, h)...)
		s.X, s.Y, s.Late = w-1, h-1, true
		got, e := Reset(s)
		want := with(fresh(w, h), func(f *api.Screen) { f.Gone = s.Gone })
		expect(t, fmt.Sprintf("Reset of %d times %d", w, h), got, e, want)
		made, _ := put.New(w, h)
		got, e = Reset(made)
		expect(t, fmt.Sprintf("Reset of a new one of %d times %d", w, h), got, e, made)
	}
}

// The model

// screens: s with the cursor here and there, with other rows that scroll, and late, if it may be.
func screens(s api.Screen) []api.Screen {
	right, down := s.G.W-1, s.G.H-1
	all := []api.Screen{s, at(s, right, 0), at(s, 0, down), at(s, right/2, down/2), at(s, right, down)}
	if down > 0 {
		all = append(all, scrolling(at(s, right, 0), 0, 1), scrolling(at(s, right, down), down-1, down), scrolling(at(s, 0, 0), down-1, down))
	}
	for _, one := range all {
		if one.X == right && one.Modes&api.Wrap != 0 {
			all = append(all, late(one))
		}
	}
	return all
}

func TestSetModel(t *testing.T) {
	var within []int
	for bits := range allModes + 1 {
		within = append(within, bits)
	}
	beyond := []int{lowest, lowest + 1, lowest + 6, -1000, -129, -128, -127, -66, -65, -64, -63, -62, -5, -4, -3, -2, -1, 64, 65, 66, 68, 127, 128, 130, 1 << 32, 1<<32 + 2, 1<<62 + 4, most - 63, most - 4, most - 2, most}
	for modes := range allModes + 1 {
		s := having(base(), modes)
		for _, c := range setting(within...) {
			hold(t, c, scrolling(at(s, 2, 2), 1, 2))
		}
		for _, c := range setting(beyond...) {
			hold(t, c, scrolling(at(s, 1, 2), 1, 2))
		}
		if modes&api.Wrap == 0 {
			continue
		}
		for _, c := range setting(within...) {
			hold(t, c, late(scrolling(at(s, 3, 0), 1, 2)))
			hold(t, c, late(at(s, 3, 1)))
		}
	}
}

func TestModel(t *testing.T) {
	for _, s := range []api.Screen{base(), of("a"), of("ab"), of("a", "b"), of("日語"), of("a", "b", "c")} {
		for modes := range allModes + 1 {
			for _, kept := range []int{0, api.Origin, api.Wrap, api.Origin | api.Wrap} {
				s := with(having(s, modes), func(s *api.Screen) { s.K.X, s.K.Y, s.K.Modes = s.G.W/2, s.G.H/2, kept })
				for _, from := range screens(s) {
					for _, c := range plain() {
						hold(t, c, from)
					}
				}
			}
		}
		for _, from := range screens(s) {
			for _, c := range calls() {
				hold(t, c, from)
			}
		}
	}
}

func TestGreatest(t *testing.T) {
	s := of(slices.Repeat([]string{"a" + strings.Repeat("日", api.MaxWide/2-1) + "b"}, api.MaxHigh)...)
	for _, from := range screens(s) {
		for _, c := range calls() {
			hold(t, c, from)
		}
	}
}

// What is answered may be handed in again, for ever.
func TestOnAndOn(t *testing.T) {
	s := of("a日b", "日cd", "e日f", "gh日", "日語")
	all := slices.Concat(calls(), setting(4, 4, 4, 2, 1), plain()[:2])
	for i := range 3000 {
		c := all[i*i%len(all)]
		hold(t, c, s)
		s, _ = c.do(s)
		if i%5 == 0 {
			s.Top, s.Bottom = i%4, i%4+1
		}
		s, _ = put.Text(s, []string{"x", "語", "日本", "abcd"}[i/3%4])
	}
}

// Wrong inputs

// fault: one thing that Check refuses, and its error.
type fault struct {
	what string
	want api.Errno
	set  func(*api.Screen)
}

// faults in the order in which Check tells them, by groups: of those of one group none goes ahead of another.
func faults() [][]fault {
	return [][]fault{
		gridFaults(), placeFaults(),
		{
			{"late ahead of the last column", api.ErrForm, func(s *api.Screen) { s.X, s.Late = 2, true }},
			{"late in the first column", api.ErrForm, func(s *api.Screen) { s.X, s.Late = 0, true }},
			{"late without Wrap", api.ErrForm, func(s *api.Screen) { s.X, s.Late, s.Modes = 3, true, 63&^api.Wrap }},
		},
		lookFaults(), formFaults(),
		{
			{"too many rows gone", api.ErrMany, func(s *api.Screen) {
				s.Gone = slices.Repeat([][]api.Cell{{{R: 'a'}}}, api.MaxHistory+1)
			}},
		}, {
			{"a gone row without cells", api.ErrForm, func(s *api.Screen) { s.Gone[1] = nil }},
			{"a gone row that is too long", api.ErrForm, func(s *api.Screen) { s.Gone[0] = slices.Repeat(s.Gone[0], api.MaxWide+1) }},
			{"a wrong rune in a gone row", api.ErrForm, func(s *api.Screen) { s.Gone[0][0].R = '\t' }},
			{"a wrong style in a gone row", api.ErrForm, func(s *api.Screen) { s.Gone[0][0].S = wrong }},
			{"a left half in a gone row", api.ErrForm, func(s *api.Screen) { s.Gone[1] = s.Gone[1][:1] }},
			{"a right half in a gone row", api.ErrForm, func(s *api.Screen) { s.Gone[1] = s.Gone[1][1:] }},
		},
	}
}

func gridFaults() []fault {
	return []fault{
		{"no cells at all", api.ErrSize, func(s *api.Screen) { s.G = api.Grid{} }},
		{"no width", api.ErrSize, func(s *api.Screen) { s.G.W = 0 }},
		{"a width below 0", api.ErrSize, func(s *api.Screen) { s.G.W = -4 }},
		{"no height", api.ErrSize, func(s *api.Screen) { s.G.H = 0 }},
		{"width and height below 0", api.ErrSize, func(s *api.Screen) { s.G.W, s.G.H = -4, -3 }},
		{"a cell too few", api.ErrSize, func(s *api.Screen) { s.G.Cells = s.G.Cells[1:] }},
		{"a cell too many", api.ErrSize, func(s *api.Screen) { s.G.Cells = append(s.G.Cells, api.Cell{R: ' '}) }},
		{"too many columns", api.ErrSize, func(s *api.Screen) {
			s.G.W, s.G.Cells = api.MaxWide+1, slices.Repeat([]api.Cell{{R: ' '}}, 3*(api.MaxWide+1))
		}},
		{"too many rows", api.ErrSize, func(s *api.Screen) {
			s.G.H, s.G.Cells = api.MaxHigh+1, slices.Repeat([]api.Cell{{R: ' '}}, 4*(api.MaxHigh+1))
		}},
		{"a wrong rune first", api.ErrRange, func(s *api.Screen) { s.G.Cells[0].R = '\n' }},
		{"a wrong rune last", api.ErrRange, func(s *api.Screen) { s.G.Cells[11].R = 0x301 }},
		{"a wrong style first", api.ErrRange, func(s *api.Screen) { s.G.Cells[0].S = wrong }},
		{"a wrong style last", api.ErrRange, func(s *api.Screen) { s.G.Cells[11].S = wrong }},
		{"a wrong style of a right half", api.ErrRange, func(s *api.Screen) { s.G.Cells[3].S = wrong }},
		{"a right half alone", api.ErrForm, func(s *api.Screen) { s.G.Cells[0].R = 0 }},
		{"a left half alone", api.ErrForm, func(s *api.Screen) { s.G.Cells[11].R = '日' }},
		{"halves that look different", api.ErrForm, func(s *api.Screen) { s.G.Cells[3].S = red }},
	}
}

func placeFaults() []fault {
	return []fault{
		{"X below 0", api.ErrRange, func(s *api.Screen) { s.X = -1 }},
		{"X at W", api.ErrRange, func(s *api.Screen) { s.X = 4 }},
		{"X as low as can be", api.ErrRange, func(s *api.Screen) { s.X = lowest }},
		{"X as high as can be", api.ErrRange, func(s *api.Screen) { s.X = most }},
		{"Y below 0", api.ErrRange, func(s *api.Screen) { s.Y = -1 }},
		{"Y at H", api.ErrRange, func(s *api.Screen) { s.Y = 3 }},
		{"Y as low as can be", api.ErrRange, func(s *api.Screen) { s.Y = lowest }},
		{"Y as high as can be", api.ErrRange, func(s *api.Screen) { s.Y = most }},
		{"K.X below 0", api.ErrRange, func(s *api.Screen) { s.K.X = -1 }},
		{"K.X at W", api.ErrRange, func(s *api.Screen) { s.K.X = 4 }},
		{"K.Y below 0", api.ErrRange, func(s *api.Screen) { s.K.Y = -1 }},
		{"K.Y at H", api.ErrRange, func(s *api.Screen) { s.K.Y = 3 }},
		{"Top below 0", api.ErrRange, func(s *api.Screen) { s.Top = -1 }},
		{"Top as low as can be", api.ErrRange, func(s *api.Screen) { s.Top = lowest }},
		{"Top at Bottom", api.ErrRange, func(s *api.Screen) { s.Top, s.Bottom = 1, 1 }},
		{"Top behind Bottom", api.ErrRange, func(s *api.Screen) { s.Top, s.Bottom = 2, 1 }},
		{"Bottom at H", api.ErrRange, func(s *api.Screen) { s.Bottom = 3 }},
		{"Bottom as high as can be", api.ErrRange, func(s *api.Screen) { s.Bottom = most }},
		{"Bottom below 0", api.ErrRange, func(s *api.Screen) { s.Bottom = -1 }},
	}
}

func lookFaults() []fault {
	return []fault{
		{"no style", api.ErrRange, func(s *api.Screen) { s.S = wrong }},
		{"no background", api.ErrRange, func(s *api.Screen) { s.S = api.Style{Back: -1} }},
		{"wrong bits", api.ErrRange, func(s *api.Screen) { s.S = api.Style{Bits: 128} }},
		{"no kept style", api.ErrRange, func(s *api.Screen) { s.K.S = wrong }},
		{"modes below 0", api.ErrRange, func(s *api.Screen) { s.Modes = -1 }},
		{"modes above 63", api.ErrRange, func(s *api.Screen) { s.Modes = 64 }},
		{"kept Insert", api.ErrRange, func(s *api.Screen) { s.K.Modes = api.Insert }},
		{"kept modes below 0", api.ErrRange, func(s *api.Screen) { s.K.Modes = -1 }},
	}
}

func formFaults() []fault {
	return []fault{
		{"no tabs", api.ErrForm, func(s *api.Screen) { s.Tabs = nil }},
		{"a tab too few", api.ErrForm, func(s *api.Screen) { s.Tabs = s.Tabs[1:] }},
		{"a tab too many", api.ErrForm, func(s *api.Screen) { s.Tabs = make([]bool, 5) }},
		{"a last rune on another", api.ErrForm, func(s *api.Screen) { s.Last = 0x301 }},
		{"a last rune below all", api.ErrForm, func(s *api.Screen) { s.Last = -1 }},
		{"a last rune above all", api.ErrForm, func(s *api.Screen) { s.Last = utf8.MaxRune + 1 }},
		{"a title that isn't clean", api.ErrForm, func(s *api.Screen) { s.Title = "a\tb" }},
		{"a title that is too long", api.ErrForm, func(s *api.Screen) { s.Title = strings.Repeat("日", api.MaxTitle+1) }},
	}
}

// Whatever a call is to change, even if it would put right what is wrong, as Reset and Restore might, it tells Check's error, and nothing else.
func TestWrongScreens(t *testing.T) {
	for _, f := range slices.Concat(faults()...) {
		s := with(base(), f.set)
		for _, c := range calls() {
			got, e := c.do(s)
			if e != f.want || !reflect.DeepEqual(got, api.Screen{}) {
				t.Errorf("%s of a screen with %s: %+v, %d, want nothing, %d", c.name, f.what, got, e, f.want)
			}
		}
	}
	for _, c := range calls() {
		if got, e := c.do(api.Screen{}); e != api.ErrSize || !reflect.DeepEqual(got, api.Screen{}) {
			t.Errorf("%s of no screen: %+v, %d", c.name, got, e)
		}
	}
}

// Of two faults the one that Check tells first is told.
func TestWrongTwice(t *testing.T) {
	all := faults()
	some := slices.Concat(setting(0, api.Origin, allModes), plain(), looks(nil), names("x"))
	for i, group := range all {
		for _, f := range group {
			for _, g := range slices.Concat(all[i+1:]...) {
				s := with(with(base(), g.set), f.set)
				for _, c := range some {
					if _, e := c.do(s); e != f.want {
						t.Errorf("%s of a screen with %s, and %s: %d, want %d", c.name, f.what, g.what, e, f.want)
					}
				}
			}
		}
	}
}

// P2

// roomy: s, each list with spare room behind it that has something in it; and whether all of it, the spare room, too, is as it was.
func roomy(s api.Screen) (api.Screen, func() bool) {
	mark := api.Cell{R: 'M', S: red}
	whole := copyOf(s)
	whole.G.Cells = append(whole.G.Cells, mark, mark)
	whole.Tabs = append(whole.Tabs, true, false)
	var rows [][]api.Cell
	for _, row := range whole.Gone {
		rows = append(rows, append(row, mark, mark))
	}
	whole.Gone = append(slices.Clone(rows), []api.Cell{mark}, []api.Cell{mark})
	for i := range rows {
		whole.Gone[i] = rows[i][:len(rows[i])-2]
	}
	before, rowsBefore := copyOf(whole), copyOf(api.Screen{Gone: rows})
	in := whole
	in.G.Cells = in.G.Cells[:len(s.G.Cells)]
	in.Tabs = in.Tabs[:len(s.Tabs)]
	in.Gone = in.Gone[:len(s.Gone)]
	return in, func() bool {
		return equal(whole, before) && equal(api.Screen{Gone: rows}, rowsBefore)
	}
}

// spoil writes over all that s has, the spare room, too.
func spoil(s api.Screen) {
	for _, row := range append([][]api.Cell{s.G.Cells}, s.Gone...) {
		row = row[:cap(row)]
		for i := range row {
			row[i] = api.Cell{R: '!'}
		}
	}
	tabs := s.Tabs[:cap(s.Tabs)]
	for i := range tabs {
		tabs[i] = !tabs[i]
	}
	clear(s.Gone[:cap(s.Gone)])
}

// screensToKeep: the cursor in the first row and in the last one, within a rune and without, and nothing, something and all gone that may be.
func screensToKeep() []api.Screen {
	some := at(base(), 2, 1)
	full := with(some, func(s *api.Screen) { s.Gone = slices.Repeat(s.Gone, api.MaxHistory/2) })
	return []api.Screen{some, at(some, 1, 1), at(some, 3, 0), late(at(some, 0, 2)), scrolling(some, 1, 2), full, at(full, 0, 2), with(some, func(s *api.Screen) { s.Gone = nil })}
}

func TestHandedInIsOnlyRead(t *testing.T) {
	for _, s := range screensToKeep() {
		for _, c := range calls() {
			in, same := roomy(s)
			got, e := c.do(in)
			if e != api.OK || !same() {
				t.Errorf("%s of %+v changes what it was handed", c.name, s)
			}
			spoil(got)
			if !same() {
				t.Errorf("%s of %+v shares what it answers with what it was handed", c.name, s)
			}
		}
	}
	for _, f := range slices.Concat(faults()...) {
		for _, c := range calls() {
			in, same := roomy(with(base(), f.set))
			if c.do(in); !same() {
				t.Errorf("%s of a screen with %s changes what it was handed", c.name, f.what)
			}
		}
	}
}

// No list of an answer shares memory with another one, even if those that were handed in do: each is written over, and its spare room, and the others stay.
func TestListsOfAnAnswerShareNothing(t *testing.T) {
	s := at(of("abcd", "efgh", "ijkl"), 2, 1)
	s.Gone = [][]api.Cell{s.G.Cells[:4], s.G.Cells[:4], s.G.Cells[2:7]}
	for _, from := range []api.Screen{s, at(s, 0, 0), at(s, 3, 2)} {
		for _, c := range calls() {
			got, _ := c.do(from)
			for i, one := range append([][]api.Cell{got.G.Cells}, got.Gone...) {
				before, kept := copyOf(got), slices.Clone(one)
				room := one[:cap(one)]
				for j := range room {
					room[j] = api.Cell{R: '!'}
				}
				others := copyOf(got)
				if i == 0 {
					others.G.Cells = kept
				} else {
					others.Gone[i-1] = kept
				}
				if !equal(others, before) {
					t.Errorf("%s: list %d shares memory with another one", c.name, i)
				}
				copy(one, kept)
			}
		}
	}
}

// Lists that have nothing in them may be nil or empty.
func TestNoneGone(t *testing.T) {
	for _, s := range []api.Screen{at(base(), 2, 1), at(base(), 2, 2)} {
		for _, c := range calls() {
			a, e := c.do(with(s, func(s *api.Screen) { s.Gone = nil }))
			b, f := c.do(with(s, func(s *api.Screen) { s.Gone = make([][]api.Cell, 0, 4) }))
			if e != api.OK || f != api.OK || !equal(a, b) {
				t.Errorf("%s: %+v, %d and %+v, %d", c.name, a, e, b, f)
			}
		}
	}
}
