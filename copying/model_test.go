package copying

import (
	"fmt"
	"regexp"
	"slices"
	"strings"
	"testing"

	"trellis/api"
)

// stop: a rune that takes cells, those from x up to end (but not end itself); or, with end 0, the beginning of a line that has none.
type stop struct {
	y, x, end int
	r         rune
}

// model of some lines: their stops one behind the other, and the same as a text, with a line feed behind each line.
type model struct {
	lines []string
	stops []stop
	text  []rune
	where []int // of each rune of text: the number of its stop; of a line feed: of its line's, if that has no rune, else -1
}

// wide: how many cells the runes of these tests take, by a list of their own.
func wide(r rune) int {
	switch r {
	case '日', '本':
		return 2
	case '\u0301', '\n', '\t':
		return 0
	}
	return 1
}

func modelOf(lines []string) model {
	m := model{lines: lines}
	for y, s := range lines {
		x := 0
		for _, r := range s {
			if wide(r) > 0 {
				m.text, m.where = append(m.text, r), append(m.where, len(m.stops))
				m.stops = append(m.stops, stop{y, x, x + wide(r), r})
				x += wide(r)
			}
		}
		feed := -1
		if x == 0 {
			feed = len(m.stops)
			m.stops = append(m.stops, stop{y: y})
		}
		m.text, m.where = append(m.text, '\n'), append(m.where, feed)
	}
	return m
}

// at: the number of the stop at a place.
func (m model) at(p api.Mark) int {
	found := -1
	for i, s := range m.stops {
		if s.y == p.Y && s.x <= p.X {
			found = i
		}
	}
	return found
}

func (m model) mark(i int) api.Mark { return api.Mark{X: m.stops[i].x, Y: m.stops[i].y} }

// lastOf: the number of the line's last stop.
func (m model) lastOf(y int) int { return m.at(api.Mark{X: 1000, Y: y}) }

var wordBegins = regexp.MustCompile(`[ \n][^ \n]`)

func (m model) word(p api.Mark) api.Mark {
	first := slices.Index(m.where, m.at(p))
	rest := string(m.text[first:])
	found := wordBegins.FindStringIndex(rest)
	if found == nil {
		return m.mark(len(m.stops) - 1)
	}
	return m.mark(m.where[first+len([]rune(rest[:found[0]]))+1])
}

func (m model) move(p api.Mark, how string) api.Mark {
	last := len(m.lines) - 1
	i := m.at(p)
	switch {
	case how == "up" && p.Y > 0:
		p.Y--
	case how == "down" && p.Y < last:
		p.Y++
	case how == "left" && i > 0:
		p = m.mark(i - 1)
	case how == "right" && i < len(m.stops)-1:
		p = m.mark(i + 1)
	case how == "start":
		p = m.mark(m.at(api.Mark{Y: p.Y}))
	case how == "end":
		p = m.mark(m.lastOf(p.Y))
	case how == "top":
		p = m.mark(0)
	case how == "bottom":
		p = m.mark(m.at(api.Mark{Y: last}))
	case how == "word":
		p = m.word(p)
	}
	return p
}

// take: of all stops those whose cells don't end ahead of the one place, and don't begin behind the other.
func (m model) take(a, b api.Mark) string {
	if b.Y*1000+b.X < a.Y*1000+a.X {
		a, b = b, a
	}
	parts := make([]string, b.Y-a.Y+1)
	for _, s := range m.stops {
		ends, begins := s.y*1000+s.end, s.y*1000+s.x
		if s.end > 0 && ends > a.Y*1000+a.X && begins <= b.Y*1000+b.X {
			parts[s.y-a.Y] += string(s.r)
		}
	}
	return strings.Join(parts, "\n")
}

// stands: does sought stand there, rune by rune?
func (m model) stands(sought []rune, i int) bool {
	y := m.stops[i].y
	for _, r := range sought {
		if i >= len(m.stops) || m.stops[i].y != y || m.stops[i].end == 0 || m.stops[i].r != r {
			return false
		}
		i++
	}
	return true
}

// seek: of all stops where what stands the first one behind p; if there is none, the first one of all.
func (m model) seek(p api.Mark, what string) (api.Mark, bool) {
	var sought []rune
	for _, r := range what {
		if wide(r) > 0 {
			sought = append(sought, r)
		}
	}
	var all, behind []api.Mark
	for i, s := range m.stops {
		if m.stands(sought, i) {
			all = append(all, m.mark(i))
			if s.y > p.Y || s.y == p.Y && s.x > p.X {
				behind = append(behind, m.mark(i))
			}
		}
	}
	found := append(behind, all...)
	if len(found) == 0 {
		return api.Mark{}, false
	}
	return found[0], true
}

// texts of up to so many of these pieces.
func texts(most int, pieces ...string) []string {
	l := []string{""}
	for first, n := 0, 0; n < most; n++ {
		end := len(l)
		for _, s := range l[first:end] {
			for _, p := range pieces {
				l = append(l, s+p)
			}
		}
		first = end
	}
	return l
}

// lists of just so many of these lines.
func lists(many int, lines []string) [][]string {
	l := [][]string{nil}
	for range many {
		var more [][]string
		for _, ahead := range l {
			for _, s := range lines {
				more = append(more, append(slices.Clone(ahead), s))
			}
		}
		l = more
	}
	return l
}

// small lists of lines.
func small() [][]string {
	return slices.Concat(
		lists(1, texts(5, "a", " ", "日")),
		lists(2, texts(3, "a", " ", "日")),
		lists(3, texts(2, "b", " ", "本")),
		lists(4, texts(1, "b", " ", "本")),
		lists(2, texts(2, "a", "\u0301", "\xff", "日", " ", "\n")),
	)
}

// places in lines: in each of them up to two columns behind all.
func places(lines []string) []api.Mark {
	most := 0
	for _, s := range modelOf(lines).stops {
		most = max(most, s.end)
	}
	var l []api.Mark
	for y := range lines {
		for x := range most + 2 {
			l = append(l, api.Mark{X: x, Y: y})
		}
	}
	return l
}

func TestMoveModel(t *testing.T) {
	for _, lines := range small() {
		m := modelOf(lines)
		for _, p := range places(lines) {
			for _, how := range []string{"up", "down", "left", "right", "start", "end", "top", "bottom", "word"} {
				got, e := Move(lines, api.Copying{At: p, On: true}, how)
				want := api.Copying{At: m.move(p, how), On: true}
				if got != want || e != api.OK {
					t.Fatalf("%s in %q from %v: %v, %d; want %v", how, lines, p, got, e, want)
				}
			}
		}
	}
}

func TestTakeModel(t *testing.T) {
	for _, lines := range small() {
		m := modelOf(lines)
		l := places(lines)
		for i, a := range l {
			for j, b := range l {
				if len(lines) > 1 && (i+j)%3 > 0 { // not all of so many
					continue
				}
				got, e := Take(lines, api.Copying{From: a, At: b, On: true})
				if want := m.take(a, b); got != want || e != api.OK {
					t.Fatalf("Take of %q from %v to %v: %q, %d; want %q", lines, a, b, got, e, want)
				}
			}
		}
	}
}

func TestSeekModel(t *testing.T) {
	sought := slices.Concat(texts(2, "a", " ", "日")[1:], texts(2, "b", "\u0301", "本")[1:], []string{"\xff", "\uFFFD", "\uFFFD\uFFFD", "a\ta", "aaa", "日日日", " a ", "bb日", "\n日\u0301"})
	sought = slices.DeleteFunc(sought, func(s string) bool { return strings.Trim(s, "\u0301") == "" })
	for _, lines := range small() {
		m := modelOf(lines)
		for _, p := range places(lines) {
			for _, what := range sought {
				got, e := Seek(lines, api.Copying{At: p, From: p, On: true}, what)
				mark, ok := m.seek(p, what)
				want := api.Copying{At: mark, From: p, On: true}
				if ok && (got != want || e != api.OK) || !ok && (got != api.Copying{} || e != api.ErrNone) {
					t.Fatalf("Seek %q in %q from %v: %v, %d; want %v, %v", what, lines, p, got, e, mark, ok)
				}
			}
		}
	}
}

// What is found, and marked up to its last rune, is what was sought; and all that stands between is what is taken from there on.
func TestFoundIsTaken(t *testing.T) {
	lines := of("one two/日本 日本語/ two 日本/")
	for _, what := range []string{"one", "two", "日本", "本語", " ", "t", "two 日本", "日本 日本語"} {
		c, _ := Begin(lines)
		for range 4 {
			c, _ = Seek(lines, c, what)
			c, _ = Select(lines, c, true)
			end := c
			for range len([]rune(what)) - 1 {
				end, _ = Move(lines, end, "right")
			}
			got, e := Take(lines, end)
			is(t, fmt.Sprintf("what stands at %v", c.At), got, e, what)
		}
	}
}

// Each rune is met once on the way from the first to the last, and back.
func TestThereAndBack(t *testing.T) {
	for _, lines := range small() {
		c, _ := Move(lines, api.Copying{}, "top")
		var way []api.Copying
		for {
			way = append(way, c)
			next, e := Move(lines, c, "right")
			if e != api.OK || next == c {
				break
			}
			c = next
		}
		if len(way) != len(modelOf(lines).stops) {
			t.Fatalf("to the right in %q: %v", lines, way)
		}
		for i := len(way) - 1; i > 0; i-- {
			got, e := Move(lines, way[i], "left")
			is(t, fmt.Sprintf("left in %q", lines), got, e, way[i-1])
		}
	}
}
