package split

import (
	"fmt"
	"math"
	"reflect"
	"runtime/debug"
	"slices"
	"testing"

	"trellis/api"
)

// call that is made with a split: what it answers, in a list.
type call struct {
	name string
	make func(x api.Split) []any
}

// all that was answered, as one.
func all(l ...any) []any { return l }

// calls that take a split, with arguments of which some are right and others not.
func calls() []call {
	l := []call{
		{"Check", func(x api.Split) []any { return all(Check(x)) }},
		{"Panes", func(x api.Split) []any { return all(Panes(x)) }},
		{"Least", func(x api.Split) []any { return all(Least(x)) }},
		{"Rotate", func(x api.Split) []any { return all(Rotate(x)) }},
		{"Print", func(x api.Split) []any { return all(Print(x)) }},
	}
	for _, size := range [][2]int{{100, 50}, {9, 9}, {0, 0}, {math.MaxInt, math.MinInt}} {
		l = append(l, call{fmt.Sprint("Lay ", size), func(x api.Split) []any { return all(Lay(x, size[0], size[1])) }})
	}
	for _, pane := range []int{nth(0), nth(1), nth(2), nth(11), 1, 2, 0, math.MinInt} {
		l = append(l, call{fmt.Sprint("Drop ", pane), func(x api.Split) []any { return all(Drop(x, pane)) }})
		for _, n := range []int{nth(0), nth(2), api.Leaf, api.Row, api.Column, math.MaxInt} {
			l = append(l,
				call{fmt.Sprint("Swap ", pane, n), func(x api.Split) []any { return all(Swap(x, pane, n)) }},
				call{fmt.Sprint("Grow ", pane, n), func(x api.Split) []any { return all(Grow(x, pane, n)) }},
				call{fmt.Sprint("Even ", n), func(x api.Split) []any { return all(Even(x, n)) }},
				call{fmt.Sprint("Cut ", pane, n, 99), func(x api.Split) []any { return all(Cut(x, pane, n, 99)) }},
				call{fmt.Sprint("Cut ", pane, n, nth(1)), func(x api.Split) []any { return all(Cut(x, pane, n, nth(1))) }},
				call{fmt.Sprint("Cut ", pane, n, 0), func(x api.Split) []any { return all(Cut(x, pane, n, 0)) }})
		}
	}
	return l
}

// refused: do all calls tell the error, ahead of those of what else they are given, and nothing else?
func refused(t *testing.T, name string, x api.Split, want api.Errno) {
	t.Helper()
	for _, c := range calls() {
		if c.name == "Panes" { // nothing is promised, but that it ends
			c.make(x)
			continue
		}
		l := c.make(x)
		if e := l[len(l)-1]; e != want {
			t.Errorf("%s of %s: %v, want %d", c.name, name, e, want)
		}
		for _, v := range l[:len(l)-1] {
			if !reflect.ValueOf(v).IsZero() {
				t.Errorf("%s of %s: %v", c.name, name, v)
			}
		}
	}
}

func TestRefused(t *testing.T) {
	for text, want := range flaws() {
		refused(t, text, of(text), want)
	}
	for _, o := range oddities() {
		refused(t, show(o.x), o.x, o.want)
	}
}

// deep: so many parts within one another, with a pane ahead of each or behind it.
func deep(n int, inner api.Split, ahead bool) api.Split {
	for i := range n {
		kids := []api.Split{inner, {Pane: 1 + i%api.MaxParam, Size: 1}}
		if ahead {
			slices.Reverse(kids)
		}
		inner = api.Split{Way: api.Row + i%2, Size: 1, Kids: kids}
	}
	return inner
}

// However deep a wrong split is, it is refused, and no call goes down with it.
func TestRefusedDeep(t *testing.T) {
	const n = 20000
	defer debug.SetMaxStack(debug.SetMaxStack(1 << 20))
	refused(t, "deep, twice the same", deep(n, pane(1, 1), false), api.ErrTwice)
	refused(t, "deep, a wrong Size", deep(n, pane(1, 0), false), api.ErrRange)
	refused(t, "deep, a leaf with Kids", deep(n, api.Split{Pane: 1, Size: 1, Kids: []api.Split{{}}}, false), api.ErrForm)
	refused(t, "deep, many", deep(n, pane(9999, 1), true), api.ErrMany)
	refused(t, "deep, behind something else", api.Split{Way: api.Column, Size: 1, Kids: []api.Split{pane(0, 1), deep(n, pane(1, 1), false)}}, api.ErrRange)
	kids := slices.Repeat([]api.Split{pane(1, 1)}, n)
	refused(t, "wide, twice the same", api.Split{Way: api.Row, Size: 1, Kids: kids}, api.ErrTwice)
	refused(t, "a leaf with many Kids", api.Split{Pane: 1, Size: 1, Kids: kids}, api.ErrForm)
}

// Parts that lie in several places, as lists may be shared: the panes are met twice.
func TestRefusedShared(t *testing.T) {
	x := of("{1,2}")
	for i := range 200 {
		x = api.Split{Way: api.Column - i%2, Size: 1, Kids: []api.Split{x, x}}
	}
	refused(t, "shared parts", x, api.ErrTwice)
}

// P2

// junk stands behind lists, and where tests write.
func junk(n int) api.Split {
	return api.Split{Way: 77, Pane: n, Size: -n, Kids: []api.Split{{Way: n}}}
}

// roomy: x with room behind each list, in which junk stands; so do leaves have lists.
func roomy(x api.Split) api.Split {
	kids := make([]api.Split, 0, len(x.Kids)+3)
	for _, k := range x.Kids {
		kids = append(kids, roomy(k))
	}
	room := kids[len(kids):cap(kids)]
	for i := range room {
		room[i] = junk(i)
	}
	x.Kids = kids
	return x
}

// snapshot: all of x, with what stands behind its lists.
func snapshot(x api.Split) string {
	s := show(x) + fmt.Sprint(len(x.Kids), cap(x.Kids))
	for _, k := range x.Kids[:cap(x.Kids)] {
		s += "(" + snapshot(k) + ")"
	}
	return s
}

// kidLists: all lists of x.
func kidLists(x api.Split) [][]api.Split {
	var l [][]api.Split
	for _, n := range nodes(&x) {
		if cap(n.Kids) > 0 {
			l = append(l, n.Kids)
		}
	}
	return l
}

// scribble over all lists of what was answered, and over the room behind them: does each have memory of its own?
func scribble(t *testing.T, name string, answer []any) {
	t.Helper()
	for _, v := range answer {
		switch v := v.(type) {
		case []int:
			for i := range v[:cap(v)] {
				v[:cap(v)][i] = -77
			}
		case []api.Place:
			for i := range v[:cap(v)] {
				v[:cap(v)][i] = api.Place{Pane: -77}
			}
		case api.Split:
			l := kidLists(v)
			for n, list := range l {
				for i := range list[:cap(list)] {
					list[:cap(list)][i] = junk(100 + n)
				}
			}
			for n, list := range l {
				for _, k := range list[:cap(list)] {
					if k.Pane != 100+n {
						t.Errorf("%s: two lists of the answer share memory", name)
						return
					}
				}
			}
		}
	}
}

// No call changes what it was handed, or what stands behind its lists; what it answers is new memory, and it answers the same again.
func TestOnlyRead(t *testing.T) {
	for _, x := range append(every(4), some()[100:140]...) {
		handed := roomy(x)
		before := snapshot(handed)
		for _, c := range calls() {
			name := c.name + " of " + show(x)
			answer := c.make(handed)
			told := fmt.Sprint(answer)
			if snapshot(handed) != before {
				t.Fatalf("%s: it was changed", name)
			}
			if other := fmt.Sprint(c.make(x)); other != told {
				t.Errorf("%s = %s, and without room behind its lists %s", name, told, other)
			}
			scribble(t, name, answer)
			if snapshot(handed) != before {
				t.Fatalf("%s: the answer shares memory with it", name)
			}
			if again := fmt.Sprint(c.make(handed)); again != told {
				t.Errorf("%s = %s, then %s", name, told, again)
			}
		}
	}
}

// What Parse answers is new memory, too.
func TestParseNew(t *testing.T) {
	for _, text := range []string{"1", "{1,2}", "{1,[2,3]*2}", "[{1,2,3},{4,[5,6,7],8}]", "{" + many(12) + "}"} {
		x, _, _ := Parse(text)
		told := show(x)
		scribble(t, "Parse of "+text, all(x))
		if again, _, _ := Parse(text); show(again) != told {
			t.Errorf("Parse(%q) = %s, then %s", text, told, show(again))
		}
	}
}
