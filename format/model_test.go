package format

import (
	"fmt"
	"strings"
	"testing"

	"trellis/api"
	"trellis/text"
)

// What the machine stands ahead of.
const (
	aByte     = iota // or an item
	afterHash        // what stands behind a # that may begin something
	aKind            // what stands behind #{
	aName
	inName
	aDigit
	inDigits
)

// inner: an item that is open: what ends it, and what it has made so far.
type inner struct {
	kind        byte // '=', '?', or 0
	cells       int
	name        string
	then, other string
	behindThen  bool
}

// machine that goes byte by byte, without calls within calls: the items that are open stand in a list.
type machine struct {
	now    int
	open   []inner
	out    string
	digits int
	items  map[string]string
}

func machineOf(items []api.Item) *machine {
	m := &machine{items: map[string]string{}}
	for i := len(items) - 1; i >= 0; i-- {
		m.items[items[i].Name] = items[i].Value
	}
	return m
}

func (m *machine) top() *inner { return &m.open[len(m.open)-1] }

// write to where what is made goes.
func (m *machine) write(s string) {
	switch {
	case len(m.open) == 0:
		m.out += s
	case m.top().behindThen:
		m.top().other += s
	default:
		m.top().then += s
	}
}

// shut the innermost item: what it made goes to the next one.
func (m *machine) shut() {
	x := *m.top()
	m.open = m.open[:len(m.open)-1]
	v := m.items[x.name]
	switch {
	case x.kind == '=':
		m.write(text.Cut(v, x.cells))
	case x.kind == '?' && (v == "" || v == "0"):
		m.write(x.other)
	case x.kind == '?':
		m.write(x.then)
	default:
		m.write(v)
	}
	m.now = aByte
}

// take one byte; back: how many bytes ahead of it something else should stand, if any; -1: nowhere.
func (m *machine) take(c byte) (back int) {
	isName := strings.IndexByte("abcdefghijklmnopqrstuvwxyz_", c) >= 0
	isDigit := strings.IndexByte("0123456789", c) >= 0
	switch {
	case m.now == afterHash && c == '{' && len(m.open) == 8:
		return 1
	case m.now == afterHash && c == '{':
		m.open = append(m.open, inner{})
		m.now = aKind
	case m.now == afterHash && c == '#':
		m.write("#")
		m.now = aByte
	case m.now == afterHash:
		m.write("#")
		m.now = aByte
		return m.take(c)
	case m.now == aByte && c == '#':
		m.now = afterHash
	case m.now == aByte && len(m.open) > 0 && !m.top().behindThen && c == ',':
		m.top().behindThen = true
	case m.now == aByte && len(m.open) > 0 && !m.top().behindThen && c == '}':
		return 0
	case m.now == aByte && len(m.open) > 0 && c == '}':
		m.shut()
	case m.now == aByte:
		m.write(string([]byte{c}))
	case m.now == aKind && c == '=':
		m.top().kind, m.now, m.digits = c, aDigit, 0
	case m.now == aKind && c == '?':
		m.top().kind, m.now = c, aName
	case (m.now == aKind || m.now == aName || m.now == inName) && isName:
		m.top().name += string(c)
		m.now = inName
	case (m.now == aDigit || m.now == inDigits) && isDigit && m.digits < 3:
		m.top().cells = m.top().cells*10 + int(c-'0')
		m.digits, m.now = m.digits+1, inDigits
	case m.now == inDigits && c == ':':
		m.now = aName
	case m.now == inName && m.top().kind == '?' && c == ',':
		m.now = aByte
	case m.now == inName && m.top().kind != '?' && c == '}':
		m.shut()
	default:
		return 0
	}
	return -1
}

// run the machine on a text: what Expand should answer.
func run(m *machine, s string) (out string, at int, e api.Errno) {
	for i := range len(s) {
		if back := m.take(s[i]); back >= 0 {
			return "", i - back, api.ErrText
		}
	}
	if m.now == afterHash {
		m.write("#")
		m.now = aByte
	}
	if len(m.open) > 0 {
		return "", len(s), api.ErrText
	}
	if len(m.out) > api.MaxText {
		return "", 0, api.ErrFull
	}
	return m.out, 0, api.OK
}

// asModel: does Expand answer what the machine does?
func asModel(t *testing.T, s string, items []api.Item) {
	t.Helper()
	out, at, e := Expand(s, items)
	wantOut, wantAt, wantE := run(machineOf(items), s)
	if out != wantOut || at != wantAt || e != wantE {
		t.Errorf("Expand(%.80q) = %.40q, %d, %d; want %.40q, %d, %d", s, out, at, e, wantOut, wantAt, wantE)
	}
}

// every text of up to n of these pieces, each behind ahead.
func every(ahead string, pieces []string, n int, do func(s string)) {
	do(ahead)
	if n == 0 {
		return
	}
	for _, p := range pieces {
		every(ahead+p, pieces, n-1, do)
	}
}

func TestExpandModel(t *testing.T) {
	items := []api.Item{{Name: "a", Value: "日x"}, {Name: "b", Value: "0"}, {Name: "aa", Value: "#"}}
	try := func(s string) { asModel(t, s, items) }
	single := strings.Split("#{}?=:,a1", "")
	every("", single, 6, try)
	for _, ahead := range []string{"#{?a,", "#{?b,", "#{?c,#", "#{?a,#{", "#{?b,1,", "#{?a,#{?b,", "#{?a,1,#{?b,1,", "#{=1", "#{=12", "#{=123:", "##", "#{a}"} {
		every(ahead, single, 5, try)
	}
	every("", []string{"#", "{", "}", ",", "#{", "#{?", "#{?a,", "#{?b,", "#{a}", "#{=2:a}", "x"}, 5, try)
	every("#{?a,#{?b,", []string{"#", "}", ",", "#{?a,", "#{b}", ",}"}, 6, try)
}

// Items within one another, with all that a few pieces may be where the eighth and the ninth may stand.
func TestExpandDeepModel(t *testing.T) {
	items := []api.Item{{Name: "a", Value: "日x"}, {Name: "b", Value: "0"}}
	pieces := []string{"#", "{", "}", ",", "#{?a,", "#{?b,,", "#{a}", ",}"}
	for deep := 5; deep <= 9; deep++ {
		ahead := ""
		for i := range deep {
			ahead += []string{"#{?a,", "#{?b,x,", "##", "#{a}#{?b,#{?a,,},"}[i%4]
		}
		every(ahead, pieces, 4, func(s string) {
			asModel(t, s, items)
			asModel(t, s+strings.Repeat("}", deep), items)
			asModel(t, s+strings.Repeat(",}", deep), items)
		})
	}
}

// piece of a format, and what it makes.
type piece struct{ text, made string }

// things that are right: all up to so deep, and some behind one another.
func right(deep int, items []api.Item) []piece {
	l := []piece{{"", ""}, {"x", "x"}, {"##", "#"}, {"日{:", "日{:"}, {"#-", "#-"}}
	for _, x := range items {
		l = append(l, piece{"#{" + x.Name + "}", x.Value}, piece{"#{=03:" + x.Name + "}", text.Cut(x.Value, 3)})
	}
	if deep == 0 {
		return l
	}
	within := right(deep-1, items)
	for i, then := range within {
		other := within[(i*7+3)%len(within)]
		for _, x := range items {
			made := then.made
			if x.Value == "" || x.Value == "0" {
				made = other.made
			}
			l = append(l, piece{"#{?" + x.Name + "," + then.text + "," + other.text + "}", made})
		}
	}
	return l
}

// What is put together so makes what its parts make; with a byte left out, or another one in its place, it is what the machine says.
func TestExpandRight(t *testing.T) {
	items := []api.Item{{Name: "one", Value: "1"}, {Name: "nought", Value: "0"}, {Name: "none", Value: ""}, {Name: "_", Value: "日本\u0301,}#{one}\xff"}}
	l := right(3, items)
	for i, p := range l {
		next := l[(i*31+5)%len(l)]
		makes(t, p.text, items, p.made)
		makes(t, p.text+next.text, items, p.made+next.made)
		if i%3 > 0 {
			continue
		}
		for at := range len(p.text) {
			asModel(t, p.text[:at], items)
			asModel(t, p.text[:at]+p.text[at+1:], items)
			for _, c := range "#{}?=:,_0 " {
				asModel(t, p.text[:at]+string(c)+p.text[at+1:], items)
			}
		}
	}
	if len(l) < 500 {
		t.Error(fmt.Sprint("only ", len(l)))
	}
}

// stateModel: the line cell by cell: what stands at the right is laid first, then from the left what has room.
func stateModel(left, right string, n int) string {
	var ends []rune
	rest := n
	for _, r := range cellsOf(right) {
		if wideOf(r) > rest {
			break
		}
		ends, rest = append(ends, r), rest-wideOf(r)
	}
	var begins []rune
	for _, r := range cellsOf(left) {
		if wideOf(r) > rest {
			break
		}
		begins, rest = append(begins, r), rest-wideOf(r)
	}
	return string(begins) + strings.Repeat(" ", rest) + string(ends)
}

// cellsOf: the runes that take cells, of those that these tests use.
func cellsOf(s string) []rune {
	return []rune(strings.ReplaceAll(strings.ReplaceAll(strings.ReplaceAll(s, "\u0301", ""), "\n", ""), "\xff", "\ufffd"))
}

func wideOf(r rune) int {
	if r == '日' {
		return 2
	}
	return 1
}

func TestStateModel(t *testing.T) {
	pieces := []string{"a", "日", "\u0301", "\n", "\xff", " "}
	every("", pieces, 3, func(left string) {
		every("", pieces, 3, func(right string) {
			for n := 1; n <= 9; n++ {
				if got, e := State(left, right, n); got != stateModel(left, right, n) || e != api.OK {
					t.Errorf("State(%q, %q, %d) = %q, %d; want %q", left, right, n, got, e, stateModel(left, right, n))
				}
			}
		})
	})
}
