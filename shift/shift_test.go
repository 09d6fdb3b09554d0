package shift

import (
	"fmt"
	"math"
	"reflect"
	"slices"
	"strings"
	"testing"
	"unicode/utf8"

	"trellis/api"
	"trellis/put"
	"trellis/text"
)

var (
	red   = api.Style{Fore: 4, Back: 2, Bits: api.Bold | api.Reverse}
	green = api.Style{Fore: 3, Back: 9, Bits: api.Under}
	wrong = api.Style{Fore: api.MaxColour + 1}
)

const (
	lowest = math.MinInt
	most   = math.MaxInt
)

// cellsOf a row: its runes in green; '.' stands for a cell that was cleared with S red, '_' for a half that was mended.
func cellsOf(row string) []api.Cell {
	var cells []api.Cell
	for _, r := range row {
		switch {
		case r == '.':
			cells = append(cells, api.Cell{R: ' ', S: api.Style{Back: red.Back}})
		case r == '_':
			cells = append(cells, api.Cell{R: ' ', S: green})
		case text.Width(r) == 2:
			cells = append(cells, api.Cell{R: r, S: green}, api.Cell{S: green})
		default:
			cells = append(cells, api.Cell{R: r, S: green})
		}
	}
	return cells
}

// of: a screen with these rows, and with something in all that the chapter doesn't speak of, without any call of this package.
func of(rows ...string) api.Screen {
	g := api.Grid{H: len(rows)}
	for _, row := range rows {
		cells := cellsOf(row)
		g.W = len(cells)
		g.Cells = append(g.Cells, cells...)
	}
	s := api.Screen{
		G:      g,
		S:      red,
		Bottom: g.H - 1,
		Modes:  api.Wrap | api.Insert | api.Hidden,
		Tabs:   make([]bool, g.W),
		K:      api.Kept{X: g.W - 1, Y: g.H - 1, S: green, Modes: api.Origin},
		Last:   '語',
		Title:  "a title 日",
		Gone:   [][]api.Cell{{{R: 'x', S: red}}, {{R: '日'}, {}}},
	}
	s.Tabs[g.W/2] = true
	return s
}

// rowsOf letters: a row for each of them, with a wide rune in it; '.' stands for one that was cleared.
func rowsOf(letters string) []string {
	var rows []string
	for _, r := range letters {
		if r == '.' {
			rows = append(rows, "...")
		} else {
			rows = append(rows, string(r)+"日")
		}
	}
	return rows
}

// tall: a screen with a row for each of the letters.
func tall(letters string) api.Screen { return of(rowsOf(letters)...) }

// with: s, and some of it otherwise; its lists are its own.
func with(s api.Screen, set func(*api.Screen)) api.Screen {
	s = copyOf(s)
	set(&s)
	return s
}

func at(s api.Screen, x, y int) api.Screen {
	return with(s, func(s *api.Screen) { s.X, s.Y = x, y })
}

// scrolling: s, in which the rows from top to bottom scroll.
func scrolling(s api.Screen, top, bottom int) api.Screen {
	return with(s, func(s *api.Screen) { s.Top, s.Bottom = top, bottom })
}

func origin(s api.Screen) api.Screen {
	return with(s, func(s *api.Screen) { s.Modes |= api.Origin })
}

// late: s, its last column just written.
func late(s api.Screen) api.Screen {
	return with(s, func(s *api.Screen) { s.X, s.Late = s.G.W-1, true })
}

func inTime(s api.Screen) api.Screen {
	return with(s, func(s *api.Screen) { s.Late = false })
}

// showing: s, with a row for each of the letters instead of its own.
func showing(s api.Screen, letters string) api.Screen {
	return with(s, func(s *api.Screen) { s.G = tall(letters).G })
}

// showingIn: s, with this row instead of its own one at y.
func showingIn(s api.Screen, y int, row string) api.Screen {
	return with(s, func(s *api.Screen) { copy(s.G.Cells[y*s.G.W:], cellsOf(row)) })
}

// left: s, with rows of the letters behind all that is gone.
func left(s api.Screen, letters string) api.Screen {
	return with(s, func(s *api.Screen) {
		for _, row := range rowsOf(letters) {
			s.Gone = append(s.Gone, cellsOf(row))
		}
	})
}

// copyOf s, which shares nothing with it, with the lists that have nothing in them nil.
func copyOf(s api.Screen) api.Screen {
	s.G.Cells = append([]api.Cell(nil), s.G.Cells...)
	s.Tabs = append([]bool(nil), s.Tabs...)
	gone := s.Gone
	s.Gone = nil
	for _, row := range gone {
		s.Gone = append(s.Gone, append([]api.Cell(nil), row...))
	}
	return s
}

func equal(a, b api.Screen) bool { return reflect.DeepEqual(copyOf(a), copyOf(b)) }

// expect: nothing but what is wanted comes of it, and that is right.
func expect(t *testing.T, what string, got api.Screen, e api.Errno, want api.Screen) {
	t.Helper()
	if e != api.OK || !equal(got, want) {
		t.Fatalf("%s: %+v, %d, want %+v, 0", what, got, e, want)
	}
	if e := put.Check(got); e != api.OK {
		t.Fatalf("%s: what is answered doesn't pass Check: %d", what, e)
	}
}

// call of this package, and what the model makes of the same.
type call struct {
	name  string
	do    func(api.Screen) (api.Screen, api.Errno)
	model func(*model)
}

// counting: a call with a number.
func counting(name string, n int, do func(api.Screen, int) (api.Screen, api.Errno), of func(*model, int)) call {
	return call{
		fmt.Sprint(name, " ", n),
		func(s api.Screen) (api.Screen, api.Errno) { return do(s, n) },
		func(m *model) { of(m, n) },
	}
}

// cellCalls: those that move cells, with these numbers.
func cellCalls(numbers ...int) []call {
	var all []call
	for _, n := range numbers {
		all = append(all, counting("Insert", n, Insert, (*model).insert), counting("Delete", n, Delete, (*model).delete))
	}
	return all
}

// rowCalls: those that move rows, with these numbers, if they are given one.
func rowCalls(numbers ...int) []call {
	all := []call{{"Feed", Feed, (*model).feed}, {"Back", Back, (*model).back}}
	for _, n := range numbers {
		all = append(all,
			counting("InsertLines", n, InsertLines, (*model).insertLines),
			counting("DeleteLines", n, DeleteLines, (*model).deleteLines),
			counting("Up", n, Up, (*model).scrollUp),
			counting("Down", n, Down, (*model).scrollDown))
	}
	return all
}

// regions: Region with each two of these numbers.
func regions(numbers ...int) []call {
	var all []call
	for _, top := range numbers {
		for _, bottom := range numbers {
			all = append(all, call{
				fmt.Sprint("Region ", top, " ", bottom),
				func(s api.Screen) (api.Screen, api.Errno) { return Region(s, top, bottom) },
				func(m *model) { m.region(top, bottom) },
			})
		}
	}
	return all
}

// calls: some of each, for a screen of some columns and rows.
func calls() []call {
	return slices.Concat(
		cellCalls(lowest, 0, 1, 2, 3, 4, 5, most),
		rowCalls(lowest, 0, 1, 2, 3, 4, most),
		regions(lowest, 0, 1, 2, 3, 4, most))
}

// P8.1

func TestInsert(t *testing.T) {
	for _, c := range []struct {
		n, x int
		want string
	}{
		{1, 0, ".abcd"}, {1, 1, "a.bcd"}, {1, 2, "ab.cd"}, {1, 3, "abc.d"}, {1, 4, "abcd."},
		{2, 0, "..abc"}, {2, 2, "ab..c"}, {2, 3, "abc.."}, {2, 4, "abcd."},
		{3, 0, "...ab"}, {3, 1, "a...b"}, {3, 2, "ab..."}, {3, 3, "abc.."},
		{4, 0, "....a"}, {4, 1, "a...."}, {4, 2, "ab..."},
		{5, 0, "....."}, {5, 1, "a...."}, {5, 4, "abcd."}, {6, 0, "....."}, {6, 2, "ab..."},
		{0, 0, ".abcd"}, {0, 2, "ab.cd"}, {0, 4, "abcd."}, {-1, 2, "ab.cd"}, {-5, 0, ".abcd"}, {lowest, 2, "ab.cd"}, {lowest, 4, "abcd."},
		{1000, 2, "ab..."}, {1001, 0, "....."}, {api.MaxParam, 2, "ab..."}, {api.MaxParam + 1, 2, "ab..."},
		{most - 2, 2, "ab..."}, {most, 0, "....."}, {most, 2, "ab..."}, {most, 4, "abcd."},
	} {
		for y := range 3 {
			s := at(of("abcde", "abcde", "abcde"), c.x, y)
			got, e := Insert(s, c.n)
			expect(t, fmt.Sprintf("Insert %d at %d, %d", c.n, c.x, y), got, e, showingIn(s, y, c.want))
		}
	}
}

// A wide rune that is cut, at X or at the end of the row, becomes blanks in the look that it had.
func TestInsertAmongWideRunes(t *testing.T) {
	for _, c := range []struct {
		n, x int
		want string
	}{
		{1, 0, ".a日b_"}, {1, 1, "a.日b_"}, {1, 2, "a_._b_"}, {1, 3, "a日.b_"}, {1, 4, "a日b._"}, {1, 5, "a日b_."},
		{2, 0, "..a日b"}, {2, 1, "a..日b"}, {2, 2, "a_.._b"}, {2, 3, "a日..b"}, {2, 4, "a日b.."}, {2, 5, "a日b_."},
		{3, 0, "...a日"}, {3, 1, "a...日"}, {3, 2, "a_..._"}, {3, 3, "a日..."}, {3, 4, "a日b.."},
		{4, 0, "....a_"}, {4, 1, "a...._"}, {4, 2, "a_...."}, {4, 3, "a日..."},
		{5, 0, ".....a"}, {5, 1, "a....."}, {5, 2, "a_...."},
		{6, 0, "......"}, {most, 0, "......"}, {most, 2, "a_...."}, {most, 5, "a日b_."},
		{0, 2, "a_._b_"}, {-1, 1, "a.日b_"}, {lowest, 5, "a日b_."},
	} {
		for y := range 3 {
			s := at(of("a日b語", "a日b語", "a日b語"), c.x, y)
			got, e := Insert(s, c.n)
			expect(t, fmt.Sprintf("Insert %d at %d, %d", c.n, c.x, y), got, e, showingIn(s, y, c.want))
		}
	}
}

func TestDelete(t *testing.T) {
	for _, c := range []struct {
		n, x int
		want string
	}{
		{1, 0, "bcde."}, {1, 1, "acde."}, {1, 2, "abde."}, {1, 3, "abce."}, {1, 4, "abcd."},
		{2, 0, "cde.."}, {2, 2, "abe.."}, {2, 3, "abc.."}, {2, 4, "abcd."},
		{3, 0, "de..."}, {3, 1, "ae..."}, {3, 2, "ab..."}, {3, 3, "abc.."},
		{4, 0, "e...."}, {4, 1, "a...."}, {4, 2, "ab..."},
		{5, 0, "....."}, {5, 1, "a...."}, {5, 4, "abcd."}, {6, 0, "....."}, {6, 2, "ab..."},
		{0, 0, "bcde."}, {0, 2, "abde."}, {0, 4, "abcd."}, {-1, 2, "abde."}, {-5, 0, "bcde."}, {lowest, 2, "abde."}, {lowest, 4, "abcd."},
		{1000, 2, "ab..."}, {1001, 0, "....."}, {api.MaxParam, 2, "ab..."}, {api.MaxParam + 1, 2, "ab..."},
		{most - 2, 2, "ab..."}, {most, 0, "....."}, {most, 2, "ab..."}, {most, 4, "abcd."},
	} {
		for y := range 3 {
			s := at(of("abcde", "abcde", "abcde"), c.x, y)
			got, e := Delete(s, c.n)
			expect(t, fmt.Sprintf("Delete %d at %d, %d", c.n, c.x, y), got, e, showingIn(s, y, c.want))
		}
	}
}

// A wide rune that is cut, at X or where the others begin, becomes a blank in the look that it had. Where both are cut and look alike, what is left of them is a whole rune again, which needs no mending.
func TestDeleteAmongWideRunes(t *testing.T) {
	for _, c := range []struct {
		n, x int
		want string
	}{
		{1, 0, "日語b."}, {1, 1, "a_語b."}, {1, 2, "a_語b."}, {1, 3, "a日_b."}, {1, 4, "a日_b."}, {1, 5, "a日語."},
		{2, 0, "_語b.."}, {2, 1, "a語b.."}, {2, 2, "a日b.."}, {2, 3, "a日b.."}, {2, 4, "a日_.."}, {2, 5, "a日語."},
		{3, 0, "語b..."}, {3, 1, "a_b..."}, {3, 2, "a_b..."}, {3, 3, "a日..."}, {3, 4, "a日_.."},
		{4, 0, "_b...."}, {4, 1, "ab...."}, {4, 2, "a_...."}, {4, 3, "a日..."},
		{5, 0, "b....."}, {5, 1, "a....."}, {5, 2, "a_...."},
		{6, 0, "......"}, {most, 0, "......"}, {most, 2, "a_...."}, {most, 5, "a日語."},
		{0, 2, "a_語b."}, {-1, 1, "a_語b."}, {lowest, 5, "a日語."},
	} {
		for y := range 3 {
			s := at(of("a日語b", "a日語b", "a日語b"), c.x, y)
			got, e := Delete(s, c.n)
			expect(t, fmt.Sprintf("Delete %d at %d, %d", c.n, c.x, y), got, e, showingIn(s, y, c.want))
		}
	}
}

// Two runes that are cut, each with a look of its own: neither gets the other one's, and their halves don't make a rune, which has but one look.
func TestHalvesKeepTheirLooks(t *testing.T) {
	one, other := api.Style{Fore: 1, Back: 256, Bits: 127}, api.Style{Back: 5}
	s := at(of("日本"), 1, 0)
	s.G.Cells = []api.Cell{{R: '日', S: one}, {S: one}, {R: '本', S: other}, {S: other}}
	blank := api.Cell{R: ' ', S: api.Style{Back: red.Back}}
	for _, c := range []struct {
		call
		want []api.Cell
	}{
		{cellCalls(1)[0], []api.Cell{{R: ' ', S: one}, blank, {R: ' ', S: one}, {R: ' ', S: other}}},
		{cellCalls(1)[1], []api.Cell{{R: ' ', S: one}, {R: '本', S: other}, {S: other}, blank}},
		{cellCalls(2)[0], []api.Cell{{R: ' ', S: one}, blank, blank, {R: ' ', S: one}}},
		{cellCalls(2)[1], []api.Cell{{R: ' ', S: one}, {R: ' ', S: other}, blank, blank}},
		{cellCalls(3)[1], []api.Cell{{R: ' ', S: one}, blank, blank, blank}},
	} {
		got, e := c.do(s)
		expect(t, c.name, got, e, with(s, func(s *api.Screen) { s.G.Cells = c.want }))
	}
}

// P8.2

// A row that goes at the top doesn't leave there by DeleteLines: nothing is gone.
func TestLines(t *testing.T) {
	for _, c := range []struct {
		top, bottom, y, n int
		inserted, deleted string
	}{
		{0, 4, 0, 1, ".abcd", "bcde."}, {0, 4, 1, 1, "a.bcd", "acde."}, {0, 4, 2, 1, "ab.cd", "abde."}, {0, 4, 4, 1, "abcd.", "abcd."},
		{0, 4, 0, 2, "..abc", "cde.."}, {0, 4, 2, 2, "ab..c", "abe.."}, {0, 4, 2, 3, "ab...", "ab..."}, {0, 4, 2, 4, "ab...", "ab..."},
		{0, 4, 0, 4, "....a", "e...."}, {0, 4, 0, 5, ".....", "....."}, {0, 4, 0, 6, ".....", "....."}, {0, 4, 4, 2, "abcd.", "abcd."},
		{1, 3, 1, 1, "a.bce", "acd.e"}, {1, 3, 2, 1, "ab.ce", "abd.e"}, {1, 3, 3, 1, "abc.e", "abc.e"},
		{1, 3, 1, 2, "a..be", "ad..e"}, {1, 3, 2, 2, "ab..e", "ab..e"}, {1, 3, 3, 2, "abc.e", "abc.e"},
		{1, 3, 1, 3, "a...e", "a...e"}, {1, 3, 1, 4, "a...e", "a...e"}, {1, 3, 2, 9, "ab..e", "ab..e"},
		{0, 2, 0, 1, ".abde", "bc.de"}, {0, 2, 0, 9, "...de", "...de"}, {0, 1, 1, 9, "a.cde", "a.cde"},
		{2, 4, 2, 1, "ab.cd", "abde."}, {3, 4, 3, 9, "abc..", "abc.."},
		{0, 4, 1, 0, "a.bcd", "acde."}, {0, 4, 1, -1, "a.bcd", "acde."}, {1, 3, 1, lowest, "a.bce", "acd.e"},
		{0, 4, 1, api.MaxParam, "a....", "a...."}, {1, 3, 1, api.MaxParam + 1, "a...e", "a...e"}, {1, 3, 2, most, "ab..e", "ab..e"},
	} {
		for x := range 4 {
			s := at(scrolling(tall("abcde"), c.top, c.bottom), x, c.y)
			if x == 3 {
				s = late(s)
			}
			what := fmt.Sprintf("Lines %d at %d, %d of %d to %d", c.n, x, c.y, c.top, c.bottom)
			got, e := InsertLines(s, c.n)
			expect(t, "Insert"+what, got, e, at(inTime(showing(s, c.inserted)), 0, c.y))
			got, e = DeleteLines(s, c.n)
			expect(t, "Delete"+what, got, e, at(inTime(showing(s, c.deleted)), 0, c.y))
		}
	}
}

// Above the rows that scroll, and below them, nothing is done: X and Late stay, too.
func TestLinesOutside(t *testing.T) {
	for _, c := range []struct{ top, bottom, y int }{{1, 3, 0}, {1, 3, 4}, {2, 4, 0}, {2, 4, 1}, {0, 2, 3}, {0, 2, 4}, {3, 4, 2}, {0, 1, 2}} {
		for x := range 3 {
			for _, s := range []api.Screen{at(tall("abcde"), x, c.y), late(at(tall("abcde"), x, c.y))} {
				s = scrolling(s, c.top, c.bottom)
				for _, n := range []int{lowest, 0, 1, 2, 5, most} {
					got, e := InsertLines(s, n)
					expect(t, fmt.Sprintf("InsertLines %d in row %d of %d to %d", n, c.y, c.top, c.bottom), got, e, s)
					got, e = DeleteLines(s, n)
					expect(t, fmt.Sprintf("DeleteLines %d in row %d of %d to %d", n, c.y, c.top, c.bottom), got, e, s)
				}
			}
		}
	}
}

// P8.3

// What leaves at the top of the screen is gone, in its order, and no blank row behind it; what leaves elsewhere isn't.
func TestUpAndDown(t *testing.T) {
	for _, c := range []struct {
		top, bottom, n int
		up, gone, down string
	}{
		{0, 4, 1, "bcde.", "a", ".abcd"}, {0, 4, 2, "cde..", "ab", "..abc"}, {0, 4, 4, "e....", "abcd", "....a"},
		{0, 4, 5, ".....", "abcde", "....."}, {0, 4, 6, ".....", "abcde", "....."},
		{0, 4, 0, "bcde.", "a", ".abcd"}, {0, 4, -1, "bcde.", "a", ".abcd"}, {0, 4, lowest, "bcde.", "a", ".abcd"},
		{0, 4, api.MaxParam, ".....", "abcde", "....."}, {0, 4, api.MaxParam + 1, ".....", "abcde", "....."}, {0, 4, most, ".....", "abcde", "....."},
		{0, 2, 1, "bc.de", "a", ".abde"}, {0, 2, 2, "c..de", "ab", "..ade"}, {0, 2, 3, "...de", "abc", "...de"}, {0, 2, 4, "...de", "abc", "...de"},
		{0, 1, 1, "b.cde", "a", ".acde"}, {0, 1, most, "..cde", "ab", "..cde"},
		{1, 3, 1, "acd.e", "", "a.bce"}, {1, 3, 2, "ad..e", "", "a..be"}, {1, 3, 3, "a...e", "", "a...e"}, {1, 3, 4, "a...e", "", "a...e"},
		{1, 3, 0, "acd.e", "", "a.bce"}, {1, 3, lowest, "acd.e", "", "a.bce"}, {1, 3, most, "a...e", "", "a...e"},
		{1, 4, 1, "acde.", "", "a.bcd"}, {2, 4, 2, "abe..", "", "ab..c"}, {3, 4, 1, "abce.", "", "abc.d"}, {3, 4, 9, "abc..", "", "abc.."},
	} {
		for y := range 5 {
			s := at(scrolling(tall("abcde"), c.top, c.bottom), 1, y)
			for _, from := range []api.Screen{s, late(s), origin(s)} {
				got, e := Up(from, c.n)
				expect(t, fmt.Sprintf("Up %d of %d to %d", c.n, c.top, c.bottom), got, e, left(showing(from, c.up), c.gone))
				got, e = Down(from, c.n)
				expect(t, fmt.Sprintf("Down %d of %d to %d", c.n, c.top, c.bottom), got, e, showing(from, c.down))
			}
		}
	}
}

// Of more than may be gone the first ones go, those that have just left, too, if need be.
func TestGone(t *testing.T) {
	for _, already := range []int{0, 1, api.MaxHistory - 3, api.MaxHistory - 2, api.MaxHistory - 1, api.MaxHistory} {
		for _, rows := range []int{2, 5, api.MaxHistory - 1, api.MaxHistory, api.MaxHistory + 1, api.MaxHigh} {
			s := with(tall(strings.Repeat("a", rows)), func(s *api.Screen) {
				s.Gone = nil
				for i := range already {
					s.Gone = append(s.Gone, []api.Cell{{R: rune('A' + i)}})
				}
				for y := range rows {
					s.G.Cells[3*y].R = rune(0x400 + y)
				}
			})
			for _, n := range []int{1, 2, 3, rows - 1, rows, rows + 1, most} {
				want := slices.Clone(s.Gone)
				for y := range min(n, rows) {
					want = append(want, s.G.Cells[3*y:3*y+3])
				}
				want = want[max(0, len(want)-api.MaxHistory):]
				got, e := Up(s, n)
				if e != api.OK || !reflect.DeepEqual(got.Gone, want) {
					t.Fatalf("Up %d of %d rows, with %d gone: %v, %d, want %v", n, rows, already, got.Gone, e, want)
				}
				if e := put.Check(got); e != api.OK {
					t.Fatalf("Up %d of %d rows, with %d gone: what is answered doesn't pass Check: %d", n, rows, already, e)
				}
			}
		}
	}
}

// Feed keeps to the same bounds, one row at a time.
func TestGoneByFeed(t *testing.T) {
	s := with(at(tall("ab"), 1, 1), func(s *api.Screen) { s.Gone = slices.Repeat([][]api.Cell{{{R: 'x'}}}, api.MaxHistory) })
	got, e := Feed(s)
	want := with(showing(s, "b."), func(s *api.Screen) { s.Gone = append(s.Gone[1:], cellsOf("a日")) })
	expect(t, "Feed", got, e, want)
}

// No other call than Up and Feed touches what is gone.
func TestGoneStays(t *testing.T) {
	for y := range 3 {
		s := at(of("ab日", "日cd", "efgh"), 1, y)
		for _, c := range calls() {
			got, e := c.do(s)
			mayGo := strings.HasPrefix(c.name, "Up") || c.name == "Feed" && y == 2
			if same := equal(api.Screen{Gone: got.Gone}, api.Screen{Gone: s.Gone}); e != api.OK || same == mayGo {
				t.Errorf("%s in row %d: gone is %v, %d", c.name, y, got.Gone, e)
			}
		}
	}
}

func TestFeed(t *testing.T) {
	for _, c := range []struct {
		top, bottom, y int
		want           string
		to             int
		gone           string
	}{
		{0, 4, 0, "abcde", 1, ""}, {0, 4, 2, "abcde", 3, ""}, {0, 4, 3, "abcde", 4, ""}, {0, 4, 4, "bcde.", 4, "a"},
		{0, 2, 0, "abcde", 1, ""}, {0, 2, 1, "abcde", 2, ""}, {0, 2, 2, "bc.de", 2, "a"}, {0, 2, 3, "abcde", 4, ""}, {0, 2, 4, "abcde", 4, ""},
		{1, 3, 0, "abcde", 1, ""}, {1, 3, 1, "abcde", 2, ""}, {1, 3, 2, "abcde", 3, ""}, {1, 3, 3, "acd.e", 3, ""}, {1, 3, 4, "abcde", 4, ""},
		{2, 4, 0, "abcde", 1, ""}, {2, 4, 1, "abcde", 2, ""}, {2, 4, 4, "abde.", 4, ""},
	} {
		for x := range 3 {
			s := at(scrolling(tall("abcde"), c.top, c.bottom), x, c.y)
			for _, from := range []api.Screen{s, late(s), origin(s)} {
				got, e := Feed(from)
				want := left(inTime(at(showing(from, c.want), from.X, c.to)), c.gone)
				expect(t, fmt.Sprintf("Feed in row %d of %d to %d", c.y, c.top, c.bottom), got, e, want)
			}
		}
	}
}

func TestBack(t *testing.T) {
	for _, c := range []struct {
		top, bottom, y int
		want           string
		to             int
	}{
		{0, 4, 0, ".abcd", 0}, {0, 4, 1, "abcde", 0}, {0, 4, 2, "abcde", 1}, {0, 4, 4, "abcde", 3},
		{0, 2, 0, ".abde", 0}, {0, 2, 1, "abcde", 0}, {0, 2, 2, "abcde", 1}, {0, 2, 3, "abcde", 2}, {0, 2, 4, "abcde", 3},
		{1, 3, 0, "abcde", 0}, {1, 3, 1, "a.bce", 1}, {1, 3, 2, "abcde", 1}, {1, 3, 3, "abcde", 2}, {1, 3, 4, "abcde", 3},
		{2, 4, 0, "abcde", 0}, {2, 4, 1, "abcde", 0}, {2, 4, 2, "ab.cd", 2}, {2, 4, 3, "abcde", 2}, {2, 4, 4, "abcde", 3},
	} {
		for x := range 3 {
			s := at(scrolling(tall("abcde"), c.top, c.bottom), x, c.y)
			for _, from := range []api.Screen{s, late(s), origin(s)} {
				got, e := Back(from)
				expect(t, fmt.Sprintf("Back in row %d of %d to %d", c.y, c.top, c.bottom), got, e, inTime(at(showing(from, c.want), from.X, c.to)))
			}
		}
	}
}

// On a screen of one row that is the first, the last, Top and Bottom.
func TestOneRow(t *testing.T) {
	for x := range 3 {
		for _, s := range []api.Screen{at(tall("a"), x, 0), late(tall("a")), origin(at(tall("a"), x, 0))} {
			blank := showing(s, ".")
			for _, n := range []int{lowest, 0, 1, 2, most} {
				got, e := Up(s, n)
				expect(t, fmt.Sprint("Up ", n), got, e, left(blank, "a"))
				got, e = Down(s, n)
				expect(t, fmt.Sprint("Down ", n), got, e, blank)
				got, e = InsertLines(s, n)
				expect(t, fmt.Sprint("InsertLines ", n), got, e, at(inTime(blank), 0, 0))
				got, e = DeleteLines(s, n)
				expect(t, fmt.Sprint("DeleteLines ", n), got, e, at(inTime(blank), 0, 0))
			}
			got, e := Feed(s)
			expect(t, "Feed", got, e, inTime(left(blank, "a")))
			got, e = Back(s)
			expect(t, "Back", got, e, inTime(blank))
		}
	}
}

// P8.4

func TestRegion(t *testing.T) {
	for _, c := range []struct{ top, bottom, first, last int }{
		{1, 5, 0, 4}, {1, 2, 0, 1}, {1, 4, 0, 3}, {2, 4, 1, 3}, {2, 5, 1, 4}, {4, 5, 3, 4}, {3, 4, 2, 3},
		{0, 3, 0, 2}, {-1, 3, 0, 2}, {lowest, 3, 0, 2}, {lowest, 2, 0, 1},
		{2, 0, 1, 4}, {2, -1, 1, 4}, {2, lowest, 1, 4}, {2, 6, 1, 4}, {2, 7, 1, 4}, {2, api.MaxParam, 1, 4}, {2, most, 1, 4},
		{4, 0, 3, 4}, {4, 6, 3, 4}, {0, 0, 0, 4}, {-1, -1, 0, 4}, {lowest, lowest, 0, 4}, {lowest, most, 0, 4}, {1, 0, 0, 4}, {1, 6, 0, 4},
	} {
		for y := range 5 {
			for x := range 3 {
				s := at(scrolling(tall("abcde"), 1, 2), x, y)
				what := fmt.Sprintf("Region %d %d at %d, %d", c.top, c.bottom, x, y)
				for _, from := range []api.Screen{s, late(s)} {
					got, e := Region(from, c.top, c.bottom)
					expect(t, what, got, e, inTime(at(scrolling(from, c.first, c.last), 0, 0)))
					got, e = Region(origin(from), c.top, c.bottom)
					expect(t, what+" with Origin", got, e, inTime(at(scrolling(origin(from), c.first, c.last), 0, c.first)))
				}
			}
		}
	}
}

// Where the first row isn't ahead of the last one, nothing is done: X, Y and Late stay, too.
func TestNoRegion(t *testing.T) {
	for _, c := range []struct{ top, bottom int }{
		{1, 1}, {2, 2}, {3, 3}, {5, 5}, {2, 1}, {5, 1}, {4, 3}, {5, 4},
		{0, 1}, {-1, 1}, {lowest, 1}, {5, 0}, {5, -1}, {5, lowest}, {5, 6}, {5, most},
		{6, 0}, {6, 5}, {6, 6}, {6, 7}, {7, 1}, {api.MaxParam, 0}, {api.MaxParam, api.MaxParam}, {most, lowest}, {most, 0}, {most, 3}, {most, 5}, {most, most},
	} {
		for y := range 5 {
			s := at(scrolling(tall("abcde"), 1, 3), 1, y)
			for _, from := range []api.Screen{s, origin(s), late(s), late(origin(s))} {
				got, e := Region(from, c.top, c.bottom)
				expect(t, fmt.Sprintf("Region %d %d", c.top, c.bottom), got, e, from)
			}
		}
	}
}

// One row alone scrolls only where it is the only one.
func TestRegionOfOneRow(t *testing.T) {
	for x := range 3 {
		for _, s := range []api.Screen{at(tall("a"), x, 0), late(tall("a")), origin(at(tall("a"), x, 0)), late(origin(tall("a")))} {
			for _, bottom := range []int{lowest, -1, 0, 1, 2, 3, most} {
				for _, top := range []int{lowest, -1, 0, 1} {
					got, e := Region(s, top, bottom)
					expect(t, fmt.Sprintf("Region %d %d", top, bottom), got, e, inTime(at(s, 0, 0)))
				}
				for _, top := range []int{2, 3, most} {
					got, e := Region(s, top, bottom)
					expect(t, fmt.Sprintf("Region %d %d", top, bottom), got, e, s)
				}
			}
		}
	}
}

// Two rows: there is but one region.
func TestRegionOfTwoRows(t *testing.T) {
	for _, c := range []struct {
		top, bottom int
		may         bool
	}{{1, 2, true}, {0, 0, true}, {1, 3, true}, {lowest, most, true}, {1, 1, false}, {2, 2, false}, {2, 0, false}, {2, 1, false}, {2, 3, false}, {3, 3, false}, {most, most, false}} {
		s := late(at(tall("ab"), 0, 1))
		want := s
		if c.may {
			want = inTime(at(s, 0, 0))
		}
		got, e := Region(s, c.top, c.bottom)
		expect(t, fmt.Sprintf("Region %d %d", c.top, c.bottom), got, e, want)
	}
}

// Looks

// A blank, and a row of them, has S's background, and nothing else of S.
func TestBlanks(t *testing.T) {
	for _, c := range []struct{ look, blank api.Style }{
		{api.Style{}, api.Style{}},
		{api.Style{Back: 1}, api.Style{Back: 1}},
		{api.Style{Back: api.MaxColour}, api.Style{Back: api.MaxColour}},
		{api.Style{Fore: 7}, api.Style{}},
		{api.Style{Fore: api.MaxColour, Back: 8}, api.Style{Back: 8}},
		{api.Style{Bits: 127}, api.Style{}},
		{api.Style{Back: 3, Bits: api.Reverse | api.Strike}, api.Style{Back: 3}},
	} {
		row := slices.Repeat([]api.Cell{{R: ' ', S: c.blank}}, 3)
		s := with(tall("ab"), func(s *api.Screen) { s.S = c.look })
		lower := at(s, 0, 1)
		for _, d := range []struct {
			call
			from  api.Screen
			fresh int // the row that is blank then
		}{
			{cellCalls(3)[0], s, 0}, {cellCalls(3)[1], s, 0}, {cellCalls(3)[0], lower, 1}, {cellCalls(3)[1], lower, 1},
			{rowCalls(1)[0], lower, 1}, {rowCalls(1)[1], s, 0}, {rowCalls(1)[2], s, 0}, {rowCalls(1)[3], s, 1}, {rowCalls(1)[4], s, 1}, {rowCalls(1)[5], s, 0},
		} {
			got, e := d.do(d.from)
			if e != api.OK || !slices.Equal(got.G.Cells[3*d.fresh:3*d.fresh+3], row) {
				t.Errorf("%s with %v: %v, %d, want %v in row %d", d.name, c.look, got.G.Cells, e, row, d.fresh)
			}
			if got.S != c.look {
				t.Errorf("%s with %v: S is %v then", d.name, c.look, got.S)
			}
		}
	}
}

// Late

func TestLate(t *testing.T) {
	for y := range 3 {
		s := scrolling(late(at(of("abc", "def", "ghi"), 0, y)), 0, 1)
		for _, c := range calls() {
			m := modelOf(s)
			c.model(m)
			stays := strings.HasPrefix(c.name, "Up") || strings.HasPrefix(c.name, "Down") || strings.Contains(c.name, "Lines") && y == 2 || strings.HasPrefix(c.name, "Region") && m.X == 2
			if got, e := c.do(s); e != api.OK || got.Late != stays {
				t.Errorf("%s in row %d: Late is %v, %d", c.name, y, got.Late, e)
			}
		}
	}
}

// The next rune goes where the cursor stands; where Late stayed, to the next row.
func TestPrintBehind(t *testing.T) {
	s, _ := put.New(3, 3)
	s, _ = put.Text(s, "abcdef")
	for _, c := range []struct {
		call
		cell int
	}{
		{cellCalls(1)[0], 5}, {cellCalls(1)[1], 5}, {rowCalls(1)[0], 8}, {rowCalls(1)[1], 2}, {rowCalls(1)[2], 3}, {rowCalls(1)[3], 3}, {rowCalls(1)[4], 6}, {rowCalls(1)[5], 6}, {regions(1)[0], 6}, {regions(0)[0], 0},
	} {
		got, _ := c.do(s)
		got, _ = put.Text(got, "x")
		if got.G.Cells[c.cell].R != 'x' {
			t.Errorf("%s: x isn't in cell %d of %v", c.name, c.cell, got.G.Cells)
		}
	}
}

// The model: the chapter's words, cell by cell and row by row.

type model struct {
	api.Screen
	old api.Screen
}

func modelOf(s api.Screen) *model { return &model{copyOf(s), copyOf(s)} }

func (m *model) blank() api.Cell { return api.Cell{R: ' ', S: api.Style{Back: m.S.Back}} }

// make Y's row of what from tells of each column: an old one that comes there; other than that a blank.
func (m *model) make(from func(x int) int) {
	row, old := m.G.Cells[m.Y*m.G.W:(m.Y+1)*m.G.W], m.old.G.Cells[m.Y*m.G.W:(m.Y+1)*m.G.W]
	for x := range row {
		row[x] = m.blank()
		if i := from(x); i >= 0 && i < m.G.W {
			row[x] = old[i]
		}
	}
	moved := slices.Clone(row)
	for x := range row {
		first := x
		if moved[x].R == 0 {
			first--
		} else if text.Width(moved[x].R) != 2 {
			continue
		}
		if whole := first >= 0 && first+1 < m.G.W && text.Width(moved[first].R) == 2 && moved[first+1] == (api.Cell{S: moved[first].S}); !whole {
			row[x].R = ' '
		}
	}
}

// few: n, as it counts, and no more than what makes a difference.
func few(n int) int { return max(1, min(n, 200)) }

func (m *model) insert(n int) {
	m.Late = false
	m.make(func(x int) int {
		switch {
		case x < m.X:
			return x
		case x < m.X+few(n):
			return -1
		}
		return x - few(n)
	})
}

func (m *model) delete(n int) {
	m.Late = false
	m.make(func(x int) int {
		if x < m.X {
			return x
		}
		return x + few(n)
	})
}

// up once, from top on; what leaves is answered.
func (m *model) up(top int) []api.Cell {
	out := slices.Clone(m.G.Cells[top*m.G.W : (top+1)*m.G.W])
	for i := top * m.G.W; i < (m.Bottom+1)*m.G.W; i++ {
		if i/m.G.W == m.Bottom {
			m.G.Cells[i] = m.blank()
		} else {
			m.G.Cells[i] = m.G.Cells[i+m.G.W]
		}
	}
	return out
}

func (m *model) down(top int) {
	for i := (m.Bottom+1)*m.G.W - 1; i >= top*m.G.W; i-- {
		if i/m.G.W == top {
			m.G.Cells[i] = m.blank()
		} else {
			m.G.Cells[i] = m.G.Cells[i-m.G.W]
		}
	}
}

func (m *model) upAndGone() {
	if row := m.up(m.Top); m.Top == 0 {
		m.Gone = append(m.Gone, row)
	}
	if len(m.Gone) == 51 {
		m.Gone = m.Gone[1:]
	}
}

func (m *model) scrolls() bool { return m.Top <= m.Y && m.Y <= m.Bottom }

func (m *model) insertLines(n int) {
	if m.scrolls() {
		m.X, m.Late = 0, false
		for range few(n) {
			m.down(m.Y)
		}
	}
}

func (m *model) deleteLines(n int) {
	if m.scrolls() {
		m.X, m.Late = 0, false
		for range few(n) {
			m.up(m.Y)
		}
	}
}

func (m *model) scrollUp(n int) {
	for range min(few(n), m.Bottom+1-m.Top) {
		m.upAndGone()
	}
}

func (m *model) scrollDown(n int) {
	for range few(n) {
		m.down(m.Top)
	}
}

func (m *model) feed() {
	m.Late = false
	if m.Y == m.Bottom {
		m.upAndGone()
	} else if m.Y != m.G.H-1 {
		m.Y++
	}
}

func (m *model) back() {
	m.Late = false
	if m.Y == m.Top {
		m.down(m.Top)
	} else if m.Y != 0 {
		m.Y--
	}
}

func (m *model) region(top, bottom int) {
	if top < 1 {
		top = 1
	}
	if bottom < 1 || bottom > m.G.H {
		bottom = m.G.H
	}
	if top > bottom || top == bottom && m.G.H != 1 {
		return
	}
	m.Top, m.Bottom, m.X, m.Y, m.Late = top-1, bottom-1, 0, 0, false
	if m.Modes&api.Origin != 0 {
		m.Y = m.Top
	}
}

// hold c against the model.
func hold(t *testing.T, c call, s api.Screen) {
	t.Helper()
	m := modelOf(s)
	c.model(m)
	got, e := c.do(s)
	expect(t, c.name, got, e, m.Screen)
}

// tilings: all rows of a width that narrow and wide runes make.
func tilings(w int) []string {
	if w == 0 {
		return []string{""}
	}
	var all []string
	for _, row := range tilings(w - 1) {
		all = append(all, row+string(rune('a'+w)))
	}
	if w > 1 {
		for _, row := range tilings(w - 2) {
			all = append(all, row+string(rune('日'+w)))
		}
	}
	return all
}

// coloured: s, each rune in a look of its own.
func coloured(s api.Screen) api.Screen {
	return with(s, func(s *api.Screen) {
		for i := range s.G.Cells {
			s.G.Cells[i].S = api.Style{Fore: (i + 1) % 256, Back: 2 * i % 256, Bits: i % 128}
			if s.G.Cells[i].R == 0 {
				s.G.Cells[i].S = s.G.Cells[i-1].S
			}
		}
	})
}

// Every row of up to seven cells, in one look and in many, with each X and each number.
func TestCellsModel(t *testing.T) {
	for w := 1; w <= 7; w++ {
		numbers := []int{lowest, 0, 1000, api.MaxParam, most}
		for n := range w + 2 {
			numbers = append(numbers, n+1)
		}
		for i, row := range tilings(w) {
			for x := range w {
				s := at(of(row, row), x, i%2)
				for _, from := range []api.Screen{s, coloured(s), with(s, func(s *api.Screen) { s.Modes, s.S = 0, api.Style{Fore: 3} }), with(late(coloured(s)), func(s *api.Screen) { s.Modes = 63 })} {
					for _, c := range cellCalls(numbers...) {
						hold(t, c, from)
					}
				}
			}
		}
	}
}

// Every region and every row of screens of up to five rows, with and without Origin and Late; the first column may be the last one, too.
func TestRowsModel(t *testing.T) {
	for h := 1; h <= 5; h++ {
		numbers := []int{lowest, -1, 0, api.MaxParam, most}
		for n := range h + 2 {
			numbers = append(numbers, n+1)
		}
		all := slices.Concat(rowCalls(numbers...), regions(numbers...))
		for _, s := range []api.Screen{at(tall("abcde"[:h]), 1, 0), of(strings.Split("abcde"[:h], "")...)} {
			for _, from := range regionsOf(coloured(s)) {
				for _, c := range all {
					hold(t, c, from)
				}
			}
		}
	}
}

// regionsOf s: with all rows that may scroll, and the cursor in each row.
func regionsOf(s api.Screen) []api.Screen {
	var all []api.Screen
	for top := range s.G.H {
		for bottom := top; bottom < s.G.H; bottom++ {
			if top == bottom && s.G.H > 1 {
				continue
			}
			for y := range s.G.H {
				one := at(scrolling(s, top, bottom), s.X, y)
				all = append(all, one, late(one), origin(one), late(origin(one)), with(one, func(s *api.Screen) { s.Modes, s.S = 0, api.Style{Fore: 3} }))
			}
		}
	}
	return all
}

func TestGreatest(t *testing.T) {
	s := coloured(of(slices.Repeat([]string{"a" + strings.Repeat("日", api.MaxWide/2-1) + "b"}, api.MaxHigh)...))
	right, down := api.MaxWide-1, api.MaxHigh-1
	all := slices.Concat(cellCalls(1, 2, 59, 60, 119, 120, 121, most), rowCalls(1, 2, 30, 49, 50, 51, 59, 60, 61, most), regions(1, 2, 59, 60, 61))
	for _, from := range []api.Screen{s, at(s, right, 0), at(s, 0, down), late(at(s, right, down)), at(s, 60, 30), at(s, 61, 31), scrolling(at(s, 61, 31), 1, down), scrolling(s, 0, 1)} {
		for _, c := range all {
			hold(t, c, from)
		}
	}
}

// What is answered may be handed in again, for ever.
func TestOnAndOn(t *testing.T) {
	s := coloured(of("a日b", "日cd", "e日f", "gh日", "日語"))
	all := slices.Concat(cellCalls(1, 2, 3), rowCalls(1, 2, 3), regions(0, 1, 2, 4))
	for i := range 3000 {
		c := all[i*i%len(all)]
		s.X, s.S, s.Modes = i%4, api.Style{Fore: i % 5, Back: i % 7}, []int{api.Wrap, api.Wrap | api.Origin}[i/9%2]
		s.Late = s.X == 3 && i%8 == 3
		if i%3 == 0 {
			s, _ = put.Text(s, []string{"x", "語", "日本"}[i/3%3])
		}
		hold(t, c, s)
		s, _ = c.do(s)
	}
}

// Wrong inputs

// fault: one thing that Check refuses, and its error.
type fault struct {
	what string
	want api.Errno
	set  func(*api.Screen)
}

// base: what is right, and is made wrong by a fault.
func base() api.Screen { return of("ab日", "日cd", "efgh") }

// faults in the order in which Check tells them, by groups: of those of one group none goes ahead of another.
func faults() [][]fault {
	return [][]fault{
		gridFaults(), placeFaults(),
		{
			{"late ahead of the last column", api.ErrForm, func(s *api.Screen) { s.X, s.Late = 2, true }},
			{"late in the first column", api.ErrForm, func(s *api.Screen) { s.X, s.Late = 0, true }},
			{"late without Wrap", api.ErrForm, func(s *api.Screen) { s.X, s.Late, s.Modes = 3, true, 63&^api.Wrap }},
		},
		lookFaults(), formFaults(),
		{
			{"too many rows gone", api.ErrMany, func(s *api.Screen) {
				s.Gone = slices.Repeat([][]api.Cell{{{R: 'a'}}}, api.MaxHistory+1)
			}},
		}, {
			{"a gone row without cells", api.ErrForm, func(s *api.Screen) { s.Gone[1] = nil }},
			{"a gone row that is too long", api.ErrForm, func(s *api.Screen) { s.Gone[0] = slices.Repeat(s.Gone[0], api.MaxWide+1) }},
			{"a wrong rune in a gone row", api.ErrForm, func(s *api.Screen) { s.Gone[0][0].R = '\t' }},
			{"a wrong style in a gone row", api.ErrForm, func(s *api.Screen) { s.Gone[0][0].S = wrong }},
			{"a left half in a gone row", api.ErrForm, func(s *api.Screen) { s.Gone[1] = s.Gone[1][:1] }},
			{"a right half in a gone row", api.ErrForm, func(s *api.Screen) { s.Gone[1] = s.Gone[1][1:] }},
		},
	}
}

func gridFaults() []fault {
	return []fault{
		{"no cells at all", api.ErrSize, func(s *api.Screen) { s.G = api.Grid{} }},
		{"no width", api.ErrSize, func(s *api.Screen) { s.G.W = 0 }},
		{"a width below 0", api.ErrSize, func(s *api.Screen) { s.G.W = -4 }},
		{"no height", api.ErrSize, func(s *api.Screen) { s.G.H = 0 }},
		{"width and height below 0", api.ErrSize, func(s *api.Screen) { s.G.W, s.G.H = -4, -3 }},
		{"a cell too few", api.ErrSize, func(s *api.Screen) { s.G.Cells = s.G.Cells[1:] }},
		{"a cell too many", api.ErrSize, func(s *api.Screen) { s.G.Cells = append(s.G.Cells, api.Cell{R: ' '}) }},
		{"too many columns", api.ErrSize, func(s *api.Screen) {
			s.G.W, s.G.Cells = api.MaxWide+1, slices.Repeat([]api.Cell{{R: ' '}}, 3*(api.MaxWide+1))
		}},
		{"too many rows", api.ErrSize, func(s *api.Screen) {
			s.G.H, s.G.Cells = api.MaxHigh+1, slices.Repeat([]api.Cell{{R: ' '}}, 4*(api.MaxHigh+1))
		}},
		{"a wrong rune first", api.ErrRange, func(s *api.Screen) { s.G.Cells[0].R = '\n' }},
		{"a wrong rune last", api.ErrRange, func(s *api.Screen) { s.G.Cells[11].R = 0x301 }},
		{"a wrong style first", api.ErrRange, func(s *api.Screen) { s.G.Cells[0].S = wrong }},
		{"a wrong style last", api.ErrRange, func(s *api.Screen) { s.G.Cells[11].S = wrong }},
		{"a wrong style of a right half", api.ErrRange, func(s *api.Screen) { s.G.Cells[3].S = wrong }},
		{"a right half alone", api.ErrForm, func(s *api.Screen) { s.G.Cells[0].R = 0 }},
		{"a left half alone", api.ErrForm, func(s *api.Screen) { s.G.Cells[11].R = '日' }},
		{"halves that look different", api.ErrForm, func(s *api.Screen) { s.G.Cells[3].S = red }},
	}
}

func placeFaults() []fault {
	return []fault{
		{"X below 0", api.ErrRange, func(s *api.Screen) { s.X = -1 }},
		{"X at W", api.ErrRange, func(s *api.Screen) { s.X = 4 }},
		{"X as low as can be", api.ErrRange, func(s *api.Screen) { s.X = lowest }},
		{"X as high as can be", api.ErrRange, func(s *api.Screen) { s.X = most }},
		{"Y below 0", api.ErrRange, func(s *api.Screen) { s.Y = -1 }},
		{"Y at H", api.ErrRange, func(s *api.Screen) { s.Y = 3 }},
		{"Y as low as can be", api.ErrRange, func(s *api.Screen) { s.Y = lowest }},
		{"Y as high as can be", api.ErrRange, func(s *api.Screen) { s.Y = most }},
		{"K.X below 0", api.ErrRange, func(s *api.Screen) { s.K.X = -1 }},
		{"K.X at W", api.ErrRange, func(s *api.Screen) { s.K.X = 4 }},
		{"K.Y below 0", api.ErrRange, func(s *api.Screen) { s.K.Y = -1 }},
		{"K.Y at H", api.ErrRange, func(s *api.Screen) { s.K.Y = 3 }},
		{"Top below 0", api.ErrRange, func(s *api.Screen) { s.Top = -1 }},
		{"Top as low as can be", api.ErrRange, func(s *api.Screen) { s.Top = lowest }},
		{"Top at Bottom", api.ErrRange, func(s *api.Screen) { s.Top, s.Bottom = 1, 1 }},
		{"Top behind Bottom", api.ErrRange, func(s *api.Screen) { s.Top, s.Bottom = 2, 1 }},
		{"Bottom at H", api.ErrRange, func(s *api.Screen) { s.Bottom = 3 }},
		{"Bottom as high as can be", api.ErrRange, func(s *api.Screen) { s.Bottom = most }},
		{"Bottom below 0", api.ErrRange, func(s *api.Screen) { s.Bottom = -1 }},
	}
}

func lookFaults() []fault {
	return []fault{
		{"no style", api.ErrRange, func(s *api.Screen) { s.S = wrong }},
		{"no background", api.ErrRange, func(s *api.Screen) { s.S = api.Style{Back: -1} }},
		{"wrong bits", api.ErrRange, func(s *api.Screen) { s.S = api.Style{Bits: 128} }},
		{"no kept style", api.ErrRange, func(s *api.Screen) { s.K.S = wrong }},
		{"modes below 0", api.ErrRange, func(s *api.Screen) { s.Modes = -1 }},
		{"modes above 63", api.ErrRange, func(s *api.Screen) { s.Modes = 64 }},
		{"kept Insert", api.ErrRange, func(s *api.Screen) { s.K.Modes = api.Insert }},
		{"kept modes below 0", api.ErrRange, func(s *api.Screen) { s.K.Modes = -1 }},
	}
}

func formFaults() []fault {
	return []fault{
		{"no tabs", api.ErrForm, func(s *api.Screen) { s.Tabs = nil }},
		{"a tab too few", api.ErrForm, func(s *api.Screen) { s.Tabs = s.Tabs[1:] }},
		{"a tab too many", api.ErrForm, func(s *api.Screen) { s.Tabs = make([]bool, 5) }},
		{"a last rune on another", api.ErrForm, func(s *api.Screen) { s.Last = 0x301 }},
		{"a last rune below all", api.ErrForm, func(s *api.Screen) { s.Last = -1 }},
		{"a last rune above all", api.ErrForm, func(s *api.Screen) { s.Last = utf8.MaxRune + 1 }},
		{"a title that isn't clean", api.ErrForm, func(s *api.Screen) { s.Title = "a\tb" }},
		{"a title that is too long", api.ErrForm, func(s *api.Screen) { s.Title = strings.Repeat("日", api.MaxTitle+1) }},
	}
}

// Whatever a call is to move, even if that is what is wrong and would leave, and if it is to do nothing, it tells Check's error, and nothing else.
func TestWrongScreens(t *testing.T) {
	for _, f := range slices.Concat(faults()...) {
		s := with(base(), f.set)
		for _, c := range calls() {
			got, e := c.do(s)
			if e != f.want || !reflect.DeepEqual(got, api.Screen{}) {
				t.Errorf("%s of a screen with %s: %+v, %d, want nothing, %d", c.name, f.what, got, e, f.want)
			}
		}
	}
	for _, c := range calls() {
		if got, e := c.do(api.Screen{}); e != api.ErrSize || !reflect.DeepEqual(got, api.Screen{}) {
			t.Errorf("%s of no screen: %+v, %d", c.name, got, e)
		}
	}
}

// Of two faults the one that Check tells first is told.
func TestWrongTwice(t *testing.T) {
	all := faults()
	some := slices.Concat(cellCalls(1), rowCalls(1), regions(0, 1))
	for i, group := range all {
		for _, f := range group {
			for _, g := range slices.Concat(all[i+1:]...) {
				s := with(with(base(), g.set), f.set)
				for _, c := range some {
					if _, e := c.do(s); e != f.want {
						t.Errorf("%s of a screen with %s, and %s: %d, want %d", c.name, f.what, g.what, e, f.want)
					}
				}
			}
		}
	}
}

// P2

// roomy: s, each list with spare room behind it that has something in it; and whether all of it, the spare room, too, is as it was.
func roomy(s api.Screen) (api.Screen, func() bool) {
	mark := api.Cell{R: 'M', S: red}
	whole := copyOf(s)
	whole.G.Cells = append(whole.G.Cells, mark, mark)
	whole.Tabs = append(whole.Tabs, true, false)
	var rows [][]api.Cell
	for _, row := range whole.Gone {
		rows = append(rows, append(row, mark, mark))
	}
	whole.Gone = append(slices.Clone(rows), []api.Cell{mark}, []api.Cell{mark})
	for i := range rows {
		whole.Gone[i] = rows[i][:len(rows[i])-2]
	}
	before, rowsBefore := copyOf(whole), copyOf(api.Screen{Gone: rows})
	in := whole
	in.G.Cells = in.G.Cells[:len(s.G.Cells)]
	in.Tabs = in.Tabs[:len(s.Tabs)]
	in.Gone = in.Gone[:len(s.Gone)]
	return in, func() bool {
		return equal(whole, before) && equal(api.Screen{Gone: rows}, rowsBefore)
	}
}

// spoil writes over all that s has, the spare room, too.
func spoil(s api.Screen) {
	for _, row := range append([][]api.Cell{s.G.Cells}, s.Gone...) {
		row = row[:cap(row)]
		for i := range row {
			row[i] = api.Cell{R: '!'}
		}
	}
	tabs := s.Tabs[:cap(s.Tabs)]
	for i := range tabs {
		tabs[i] = !tabs[i]
	}
	clear(s.Gone[:cap(s.Gone)])
}

// screensToKeep: the cursor in the first row and in the last one, within a rune and without, and nothing, something and all gone that may be.
func screensToKeep() []api.Screen {
	some := at(base(), 2, 1)
	full := with(some, func(s *api.Screen) { s.Gone = slices.Repeat(s.Gone, api.MaxHistory/2) })
	return []api.Screen{some, at(some, 1, 1), at(some, 3, 0), late(at(some, 0, 2)), scrolling(some, 1, 2), full, at(full, 0, 2), with(some, func(s *api.Screen) { s.Gone = nil })}
}

func TestHandedInIsOnlyRead(t *testing.T) {
	for _, s := range screensToKeep() {
		for _, c := range calls() {
			in, same := roomy(s)
			got, e := c.do(in)
			if e != api.OK || !same() {
				t.Errorf("%s of %+v changes what it was handed", c.name, s)
			}
			spoil(got)
			if !same() {
				t.Errorf("%s of %+v shares what it answers with what it was handed", c.name, s)
			}
		}
	}
	for _, f := range slices.Concat(faults()...) {
		for _, c := range calls() {
			in, same := roomy(with(base(), f.set))
			if c.do(in); !same() {
				t.Errorf("%s of a screen with %s changes what it was handed", c.name, f.what)
			}
		}
	}
}

// No list of an answer shares memory with another one, even if those that were handed in do: each is written over, and its spare room, and the others stay.
func TestListsOfAnAnswerShareNothing(t *testing.T) {
	s := at(of("abcd", "efgh", "ijkl"), 2, 1)
	s.Gone = [][]api.Cell{s.G.Cells[:4], s.G.Cells[:4], s.G.Cells[2:7]}
	for _, from := range []api.Screen{s, at(s, 0, 0), at(s, 3, 2)} {
		for _, c := range calls() {
			got, _ := c.do(from)
			for i, one := range append([][]api.Cell{got.G.Cells}, got.Gone...) {
				before, kept := copyOf(got), slices.Clone(one)
				room := one[:cap(one)]
				for j := range room {
					room[j] = api.Cell{R: '!'}
				}
				others := copyOf(got)
				if i == 0 {
					others.G.Cells = kept
				} else {
					others.Gone[i-1] = kept
				}
				if !equal(others, before) {
					t.Errorf("%s: list %d shares memory with another one", c.name, i)
				}
				copy(one, kept)
			}
		}
	}
}

// Lists that have nothing in them may be nil or empty.
func TestNoneGone(t *testing.T) {
	for _, s := range []api.Screen{at(base(), 2, 1), at(base(), 2, 2)} {
		for _, c := range calls() {
			a, e := c.do(with(s, func(s *api.Screen) { s.Gone = nil }))
			b, f := c.do(with(s, func(s *api.Screen) { s.Gone = make([][]api.Cell, 0, 4) }))
			if e != api.OK || f != api.OK || !equal(a, b) {
				t.Errorf("%s: %+v, %d and %+v, %d", c.name, a, e, b, f)
			}
		}
	}
}
