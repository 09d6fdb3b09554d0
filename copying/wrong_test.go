package copying

import (
	"fmt"
	"math"
	"reflect"
	"slices"
	"strings"
	"testing"

	"trellis/api"
)

// call that is made with lines and a place: what it answers, in a list.
type call struct {
	name string
	make func(lines []string, c api.Copying) []any
}

// all that was answered, as one.
func all(l ...any) []any { return l }

// calls that take lines and a place, with arguments of which some are right and others not.
func calls() []call {
	l := []call{
		{"Check", func(lines []string, c api.Copying) []any { return all(Check(lines, c)) }},
		{"Take", func(lines []string, c api.Copying) []any { return all(Take(lines, c)) }},
	}
	for _, how := range []string{"up", "down", "left", "right", "start", "end", "top", "bottom", "word", "", "away"} {
		l = append(l, call{"Move " + how, func(lines []string, c api.Copying) []any { return all(Move(lines, c, how)) }})
	}
	for _, on := range []bool{false, true} {
		l = append(l, call{fmt.Sprint("Select ", on), func(lines []string, c api.Copying) []any { return all(Select(lines, c, on)) }})
	}
	for _, what := range []string{"", "a", "日", "\n", "not there", strings.Repeat("x", api.MaxText+1)} {
		l = append(l, call{fmt.Sprintf("Seek %.20q", what), func(lines []string, c api.Copying) []any { return all(Seek(lines, c, what)) }})
	}
	return l
}

// begin: the call that takes lines alone.
var begin = call{"Begin", func(lines []string, _ api.Copying) []any { return all(Begin(lines)) }}

// refused: does each of these calls tell that error, and nothing else?
func refused(t *testing.T, what string, l []call, lines []string, c api.Copying, want api.Errno) {
	t.Helper()
	for _, x := range l {
		got := x.make(lines, c)
		if e := got[len(got)-1]; e != want {
			t.Errorf("%s, %s: %v, want %d", x.name, what, e, want)
		}
		for _, v := range got[:len(got)-1] {
			if !reflect.ValueOf(v).IsZero() {
				t.Errorf("%s, %s: %v", x.name, what, v)
			}
		}
	}
}

// What is wrong with the lines is told ahead of what is wrong with the place, and that ahead of all else.
func TestRefused(t *testing.T) {
	long := strings.Repeat("x", api.MaxText+1)
	wrong := map[string][]string{
		"no lines":        nil,
		"an empty list":   {},
		"one too many":    slices.Repeat([]string{"a"}, most+1),
		"far too many":    make([]string, 1<<20),
		"too long":        {long},
		"too long behind": {"a", "日", long},
		"far too long":    {"", strings.Repeat("\u0301", 1<<20)},
	}
	numbers := []int{math.MinInt, -1, 2, api.MaxWide + 1, math.MaxInt}
	for what, lines := range wrong {
		refused(t, what, append(calls(), begin), lines, at(0, 0), api.ErrMany)
		for _, n := range numbers {
			refused(t, what, append(calls(), begin), lines, from(0, 0, n, n), api.ErrMany)
			refused(t, what, append(calls(), begin), lines, from(n, n, 0, 0), api.ErrMany)
		}
	}
	lines := of("abc/日")
	for _, n := range numbers {
		for _, on := range []bool{false, true} {
			marks := []api.Mark{{Y: n}, {X: n, Y: n}}
			if n != 2 { // which is a column
				marks = append(marks, api.Mark{X: n})
			}
			for _, m := range marks {
				refused(t, fmt.Sprint("At ", m), calls(), lines, api.Copying{At: m, On: on}, api.ErrRange)
				refused(t, fmt.Sprint("From ", m), calls(), lines, api.Copying{From: m, On: on}, api.ErrRange)
				refused(t, fmt.Sprint("both ", m), calls(), lines, api.Copying{At: m, From: m, On: on}, api.ErrRange)
			}
		}
	}
}

// What each call answers is right again.
func TestRight(t *testing.T) {
	far := strings.Repeat("日", 100)
	for _, lines := range [][]string{of("abc/日/"), of(""), of("/" + far + " a/" + far + "a日"), {strings.Repeat("a", api.MaxText), "\xff\xff", strings.Repeat("\n", api.MaxText)}} {
		for y := range lines {
			for x := range api.MaxWide + 1 {
				for _, c := range append(calls(), begin) {
					got := c.make(lines, from(api.MaxWide, len(lines)-1, x, y))
					if place, ok := got[0].(api.Copying); ok && Check(lines, place) != api.OK {
						t.Errorf("%s from %d, %d: %v", c.name, x, y, place)
					}
				}
			}
		}
	}
}

// P2

// withRoom: l, with room behind it, in which something stands.
func withRoom(l []string) []string {
	return append(slices.Clone(l), "room", "behind", "it")[: len(l) : len(l)+3]
}

// No call changes what it was handed, or what stands behind it, and each answers the same again.
func TestOnlyRead(t *testing.T) {
	for _, text := range []string{"abc/日本 a/", "", "a\u0301\n/\xff a b/日", "/// a/"} {
		lines := withRoom(of(text))
		before := slices.Clone(lines[:cap(lines)])
		for y := range lines {
			for _, x := range []int{0, 1, 3, 120} {
				for _, c := range append(calls(), begin) {
					place := from(1, 0, x, y)
					told := fmt.Sprint(c.make(lines, place))
					if !slices.Equal(lines[:cap(lines)], before) {
						t.Fatalf("%s of %q: it was changed", c.name, text)
					}
					if again := fmt.Sprint(c.make(of(text), place)); again != told {
						t.Errorf("%s of %q = %s, then %s", c.name, text, told, again)
					}
				}
			}
		}
	}
}

func TestKeepOnlyReads(t *testing.T) {
	for n := range api.MaxPaste + 3 {
		l := withRoom(strings.Split("bcdefghijk"[:n], ""))
		before := slices.Clone(l[:cap(l)])
		got, _ := Keep(l, "a")
		if !slices.Equal(l[:cap(l)], before) {
			t.Errorf("Keep of %d: they were changed", n)
		}
		for i := range got[:cap(got)] {
			got[:cap(got)][i] = "junk"
		}
		if !slices.Equal(l[:cap(l)], before) {
			t.Errorf("Keep of %d: the answer shares memory with them", n)
		}
	}
}
