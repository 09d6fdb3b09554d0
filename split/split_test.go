package split

import (
	"fmt"
	"math"
	"regexp"
	"slices"
	"strconv"
	"strings"
	"testing"

	"trellis/api"
)

// of: the split that a text tells in the form of Print, by a reader of the tests' own. It takes wrong splits, too.
func of(text string) api.Split {
	lists := [][]api.Split{nil}
	star := false
	for _, word := range regexp.MustCompile(`-?\d+|.`).FindAllString(text, -1) {
		last := len(lists) - 1
		switch word {
		case "{", "[":
			lists = append(lists, nil)
		case "}", "]":
			way := map[string]int{"}": api.Row, "]": api.Column}[word]
			lists[last-1] = append(lists[last-1], api.Split{Way: way, Size: 1, Kids: lists[last]})
			lists = lists[:last]
		case "*":
			star = true
		case ",":
		default:
			n, _ := strconv.Atoi(word)
			if star {
				lists[last][len(lists[last])-1].Size = n
			} else {
				lists[last] = append(lists[last], api.Split{Pane: n, Size: 1})
			}
			star = false
		}
	}
	return lists[0][0]
}

// show all of a split: no two look alike, but for lists that are nil or empty.
func show(x api.Split) string {
	var kids []string
	for _, k := range x.Kids {
		kids = append(kids, show(k))
	}
	inner := strings.Join(kids, ",")
	switch {
	case x.Way == api.Leaf && len(kids) == 0:
		return fmt.Sprintf("%d*%d", x.Pane, x.Size)
	case x.Way == api.Row && x.Pane == 0:
		return fmt.Sprintf("{%s}*%d", inner, x.Size)
	case x.Way == api.Column && x.Pane == 0:
		return fmt.Sprintf("[%s]*%d", inner, x.Size)
	}
	return fmt.Sprintf("way %d pane %d (%s)*%d", x.Way, x.Pane, inner, x.Size)
}

// is: is that what was answered?
func is(t *testing.T, what string, got api.Split, e api.Errno, want api.Split) {
	t.Helper()
	if e != api.OK || show(got) != show(want) {
		t.Errorf("%s = %s, %d; want %s", what, show(got), e, show(want))
	}
}

// no: is just that error answered?
func no(t *testing.T, what string, got api.Split, e, want api.Errno) {
	t.Helper()
	if e != want || show(got) != show(api.Split{}) {
		t.Errorf("%s = %s, %d; want nothing, %d", what, show(got), e, want)
	}
}

// random numbers, the same ones each time.
func random() func(n int) int {
	seed := uint32(1)
	return func(n int) int {
		seed = seed*1664525 + 1013904223
		return int(seed>>8) % n
	}
}

// shapes of n panes that don't go that way. (They share lists.)
func shapes(n, not int) []api.Split {
	if n == 1 {
		return []api.Split{{}}
	}
	var l []api.Split
	for _, way := range []int{api.Row, api.Column} {
		if way == not {
			continue
		}
		for _, kids := range lists(n, n-1, way) {
			l = append(l, api.Split{Way: way, Kids: kids})
		}
	}
	return l
}

// lists of parts of what goes that way, with n panes in all, the first with at most so many.
func lists(n, most, way int) [][]api.Split {
	if n == 0 {
		return [][]api.Split{nil}
	}
	var l [][]api.Split
	for first := 1; first <= most; first++ {
		for _, kid := range shapes(first, way) {
			for _, rest := range lists(n-first, n-first, way) {
				l = append(l, append([]api.Split{kid}, rest...))
			}
		}
	}
	return l
}

// wild: some shape of n panes that doesn't go that way.
func wild(n, not int, next func(int) int) api.Split {
	if n == 1 {
		return api.Split{}
	}
	way := api.Row
	if not == api.Row || not == noWay && next(2) == 0 {
		way = api.Column
	}
	var kids []api.Split
	for left := n; left > 0; {
		first := 1 + next(min(left, n-1))
		kids = append(kids, wild(first, way, next))
		left -= first
	}
	return api.Split{Way: way, Kids: kids}
}

// nth: the pane that has that place, from 0 on, in the splits of every.
func nth(i int) int { return 1 + (i+1)*3571%api.MaxParam }

// whole: the shape with panes, the nth ones from there on, and with Sizes; and from where on the next ones are.
func whole(x api.Split, from int, size func() int) (api.Split, int) {
	x.Size = size()
	if x.Way == api.Leaf {
		x.Pane = nth(from)
		return x, from + 1
	}
	x.Kids = slices.Clone(x.Kids)
	for i, kid := range x.Kids {
		x.Kids[i], from = whole(kid, from, size)
	}
	return x, from
}

// every split of up to n panes: each shape with all Sizes 1, and with others.
func every(n int) []api.Split {
	var l []api.Split
	for n := range n {
		l = append(l, shapes(n+1, noWay)...)
	}
	return wholes(l, random())
}

// some splits of each number of panes that may be.
func some() []api.Split {
	var l []api.Split
	next := random()
	for n := range 10 * api.MaxPanes {
		l = append(l, wild(1+n%api.MaxPanes, noWay, next))
	}
	return wholes(l, next)
}

// wholes: each shape twice: with all Sizes 1, and with others.
func wholes(l []api.Split, next func(int) int) []api.Split {
	sizes := []int{1, 1, 1, 2, 3, 7, 100, api.MaxParam}
	one := func() int { return 1 }
	other := func() int { return sizes[next(len(sizes))] }
	var out []api.Split
	for _, x := range l {
		plain, _ := whole(x, 0, one)
		sized, _ := whole(x, 0, other)
		out = append(out, plain, sized)
	}
	return out
}

// nodes of x: x itself, and all parts of parts, each ahead of its own.
func nodes(x *api.Split) []*api.Split {
	l := []*api.Split{x}
	for i := range x.Kids {
		l = append(l, nodes(&x.Kids[i])...)
	}
	return l
}

// order: the panes of x, told by going through it.
func order(x api.Split) []int {
	var l []int
	for _, n := range nodes(&x) {
		if n.Way == api.Leaf {
			l = append(l, n.Pane)
		}
	}
	return l
}

// many panes, from 1 on, as a text of parts.
func many(n int) string {
	var l []string
	for i := range n {
		l = append(l, strconv.Itoa(i+1))
	}
	return strings.Join(l, ",")
}

// The tests' splits are as many as there are: that much is known of them.
func TestEvery(t *testing.T) {
	for n, want := range []int{1, 2, 6, 22, 90, 394} {
		set := map[string]int{}
		for _, x := range shapes(n+1, noWay) {
			set[show(x)]++
		}
		if len(set) != want || len(shapes(n+1, noWay)) != want {
			t.Errorf("of %d panes: %d shapes, want %d", n+1, len(set), want)
		}
	}
}

// P13.1

func TestCheckRight(t *testing.T) {
	for _, text := range []string{
		"1", "9999", "1*2", "1*9999", "9999*9999", "{1,2}", "[1,2]", "{2,1}*9999", "{1*9999,2*9999}", "[1*2,2]*3",
		"{1,[2,3]*2}", "[{1,2},{3,4}]", "{[1,{2,[3,{4,5}]}],6}", "{" + many(api.MaxPanes) + "}", "[" + many(api.MaxPanes) + "]*7",
		"{1,[2,{3,[4,{5,[6,{7,[8,{9,[10,{11,12}]}]}]}]}]}", "[{[{[{[{[{[1,2],3},4],5},6],7},8],9},10],11},12]", "{[1,2],[3,4],[5,6],[7,8],[9,10],[11,12]}",
	} {
		if e := Check(of(text)); e != api.OK {
			t.Errorf("Check of %s: %d", text, e)
		}
	}
	for _, x := range append(every(6), some()...) {
		if e := Check(x); e != api.OK {
			t.Errorf("Check of %s: %d", show(x), e)
		}
	}
}

// flaws of splits, and what Check says of them.
func flaws() map[string]api.Errno {
	m := map[string]api.Errno{
		// Size
		"1*0": api.ErrRange, "1*-1": api.ErrRange, "1*10000": api.ErrRange, "{1,2}*0": api.ErrRange, "{1,2}*10000": api.ErrRange, "[1,2]*-9999": api.ErrRange,
		"{1*0,2}": api.ErrRange, "{1,2*0}": api.ErrRange, "{1,2*10000}": api.ErrRange, "{1,[2,3]*0}": api.ErrRange, "{1,[2,3]*10000}": api.ErrRange, "{1,[2*0,3]}": api.ErrRange, "{[1,2*10000],3}": api.ErrRange, "{1,[2,{3,4*0}]}": api.ErrRange,
		// Pane
		"0": api.ErrRange, "-1": api.ErrRange, "10000": api.ErrRange, "{0,1}": api.ErrRange, "{1,0}": api.ErrRange, "{1,10000}": api.ErrRange, "{1,[2,10000]}": api.ErrRange, "[{0,1},2]": api.ErrRange, "{0,0}": api.ErrRange,
		// met
		"{1,1}": api.ErrTwice, "[9999,9999]": api.ErrTwice, "{1,2,1}": api.ErrTwice, "{1,2,2}": api.ErrTwice, "{1,[2,1]}": api.ErrTwice, "{[1,2],1}": api.ErrTwice, "{[1,2],[3,2]}": api.ErrTwice, "{[1,{2,3}],[4,{5,3}]}": api.ErrTwice,
		// too many
		"{" + many(13) + "}": api.ErrMany, "[" + many(13) + "]": api.ErrMany, "[{" + many(12) + "},13]": api.ErrMany, "{" + many(500) + "}": api.ErrMany, "{1,[2,{3,[4,{5,[6,{7,[8,{9,[10,{11,[12,13]}]}]}]}]}]}": api.ErrMany,
		"{" + many(12) + ",1}": api.ErrTwice, "{" + many(12) + ",12}": api.ErrTwice, "{" + many(13) + ",1}": api.ErrMany, "{" + many(12) + ",0}": api.ErrRange, "{" + many(12) + ",13*0}": api.ErrRange, "{" + many(12) + ",[13,14]}": api.ErrMany, "{" + many(12) + ",[13]}": api.ErrForm,
		// Ways, Kids
		"{1}": api.ErrForm, "[1]": api.ErrForm, "{}": api.ErrForm, "[]": api.ErrForm, "{1,[2]}": api.ErrForm, "{1,[]}": api.ErrForm, "{[1],2}": api.ErrForm, "{[1,2]}": api.ErrForm, "{1,[2,{3}]}": api.ErrForm,
		"{1,{2,3}}": api.ErrForm, "{{1,2},3}": api.ErrForm, "[1,[2,3]]": api.ErrForm, "{1,[2,[3,4]]}": api.ErrForm, "{[1,{2,{3,4}}],5}": api.ErrForm,
		// of two parts, the first; what has a flaw ahead of its own parts
		"{1*0,1}": api.ErrRange, "{1,1,2*0}": api.ErrTwice, "{1,1,{2,3}}": api.ErrTwice, "{1,{2,3},1}": api.ErrForm, "{1,2*0,{3,4}}": api.ErrRange, "{1,{3,4},2*0}": api.ErrForm, "{1,0,1}": api.ErrRange, "{1,1,0}": api.ErrTwice,
		"{1,[2,1],3*0}": api.ErrTwice, "{1,[2,3*0],1}": api.ErrRange, "{[1,1],0}": api.ErrTwice, "{[0,1],[2]}": api.ErrRange, "{[2],[0,1]}": api.ErrForm, "{1*0}": api.ErrForm, "{1,1}*0": api.ErrRange, "{1*0,2}*10000": api.ErrRange, "{1,{1,1}}": api.ErrForm, "{1,[1,1]*0}": api.ErrRange, "{1,[2*0]}": api.ErrForm, "{1,[2,[0]]}": api.ErrForm,
		"{1}*0": api.ErrRange, "{}*0": api.ErrRange, "{1,{2,3}*0}": api.ErrRange, "{1,1*0}": api.ErrRange, "0*0": api.ErrRange,
		"{1,[2,{3,3}],0}": api.ErrTwice, "{1,0,[2,{3,3}]}": api.ErrRange, "{[{1,0},2],{3,4}}": api.ErrRange,
	}
	return m
}

// oddities: flaws that a text can't tell.
func oddities() []struct {
	x    api.Split
	want api.Errno
} {
	kids := of("{1,2}").Kids
	part := func(x api.Split) api.Split { return api.Split{Way: api.Column, Size: 1, Kids: []api.Split{of("3"), x}} }
	type odd = struct {
		x    api.Split
		want api.Errno
	}
	l := []odd{
		{api.Split{}, api.ErrRange},
		{api.Split{Size: 1}, api.ErrRange},
		// a leaf with Kids
		{api.Split{Pane: 1, Size: 1, Kids: kids}, api.ErrForm},
		{api.Split{Pane: 1, Size: 1, Kids: kids[:1]}, api.ErrForm},
		{api.Split{Pane: 1, Size: 0, Kids: kids}, api.ErrRange},
		{api.Split{Pane: 0, Size: 1, Kids: kids}, api.ErrForm},
		{api.Split{Pane: 3, Size: 1, Kids: []api.Split{{}}}, api.ErrForm},
		{api.Split{Pane: 10000, Size: 10000, Kids: kids}, api.ErrRange},
		// a Way that is none of three
		{api.Split{Way: 3, Size: 1, Kids: kids}, api.ErrForm},
		{api.Split{Way: -1, Size: 1, Kids: kids}, api.ErrForm},
		{api.Split{Way: -2, Size: 1, Kids: kids}, api.ErrForm},
		{api.Split{Way: math.MaxInt, Size: 1, Kids: kids}, api.ErrForm},
		{api.Split{Way: math.MinInt, Size: 1, Kids: kids}, api.ErrForm},
		{api.Split{Way: 3, Pane: 1, Size: 1}, api.ErrForm},
		{api.Split{Way: 3, Size: 0, Kids: kids}, api.ErrRange},
		{api.Split{Way: 3, Size: 1, Kids: []api.Split{{}, {}}}, api.ErrForm},
		// a Pane of what is no leaf
		{api.Split{Way: api.Row, Pane: 1, Size: 1, Kids: kids}, api.ErrForm},
		{api.Split{Way: api.Row, Pane: 9, Size: 1, Kids: kids}, api.ErrForm},
		{api.Split{Way: api.Row, Pane: -1, Size: 1, Kids: kids}, api.ErrForm},
		{api.Split{Way: api.Row, Pane: 10000, Size: 1, Kids: kids}, api.ErrForm},
		{api.Split{Way: api.Row, Pane: 9, Size: 0, Kids: kids}, api.ErrRange},
		{api.Split{Way: api.Row, Pane: 9, Size: 1, Kids: []api.Split{{}, {}}}, api.ErrForm},
		// great numbers
		{api.Split{Pane: math.MaxInt, Size: 1}, api.ErrRange},
		{api.Split{Pane: math.MinInt, Size: 1}, api.ErrRange},
		{api.Split{Pane: 1, Size: math.MaxInt}, api.ErrRange},
		{api.Split{Pane: 1, Size: math.MinInt}, api.ErrRange},
	}
	for _, o := range slices.Clone(l) {
		l = append(l, odd{part(o.x), o.want})
	}
	// a leaf that was met and has Kids; a flaw behind another
	return append(l,
		odd{api.Split{Way: api.Row, Size: 1, Kids: []api.Split{of("1"), {Pane: 1, Size: 1, Kids: kids}}}, api.ErrForm},
		odd{api.Split{Way: api.Row, Size: 1, Kids: []api.Split{of("1"), of("1"), {Pane: 2, Size: 1, Kids: kids}}}, api.ErrTwice},
		odd{api.Split{Way: api.Row, Size: 1, Kids: []api.Split{of("1"), {Pane: 2, Size: 1, Kids: kids}, of("1")}}, api.ErrForm},
		odd{api.Split{Way: api.Row, Size: 1, Kids: []api.Split{of("1"), of("0"), {Way: 3, Size: 1, Kids: kids}}}, api.ErrRange},
		odd{api.Split{Way: api.Row, Size: 1, Kids: []api.Split{of("1"), {Way: 3, Size: 1, Kids: kids}, of("0")}}, api.ErrForm},
		odd{api.Split{Way: api.Row, Size: 1, Kids: append(of("{"+many(12)+"}").Kids, api.Split{Pane: 13, Size: 1, Kids: kids})}, api.ErrForm},
	)
}

func TestCheckWrong(t *testing.T) {
	for text, want := range flaws() {
		if e := Check(of(text)); e != want {
			t.Errorf("Check of %s: %d, want %d", text, e, want)
		}
	}
	for _, o := range oddities() {
		if e := Check(o.x); e != o.want {
			t.Errorf("Check of %s: %d, want %d", show(o.x), e, o.want)
		}
	}
}

// firstFlaw: what P13.1 says, word by word: all flaws of all parts, in order, and of these the first.
func firstFlaw(x api.Split) api.Errno {
	var l []api.Errno
	met := map[int]bool{}
	var walk func(x api.Split, up int)
	walk = func(x api.Split, up int) {
		tell := func(wrong bool, e api.Errno) {
			if wrong {
				l = append(l, e)
			}
		}
		tell(x.Size < 1 || x.Size > 9999, api.ErrRange)
		if x.Way == 0 {
			tell(len(x.Kids) > 0, api.ErrForm)
			tell(x.Pane < 1 || x.Pane > 9999, api.ErrRange)
			tell(met[x.Pane], api.ErrTwice)
			tell(len(met) >= 12, api.ErrMany)
			met[x.Pane] = true
		} else {
			tell(x.Way < 0 || x.Way > 2 || x.Way == up || len(x.Kids) < 2 || x.Pane != 0, api.ErrForm)
		}
		for _, k := range x.Kids {
			walk(k, x.Way)
		}
	}
	walk(x, noWay)
	return append(l, api.OK)[0]
}

// changes that may make a part wrong: each sets one field.
func changes() []func(*api.Split) {
	var l []func(*api.Split)
	for _, n := range []int{-1, 0, 1, 2, 3} {
		l = append(l, func(x *api.Split) { x.Way = n })
	}
	for _, n := range []int{-1, 0, nth(0), nth(1), nth(20), api.MaxParam, api.MaxParam + 1} {
		l = append(l, func(x *api.Split) { x.Pane = n })
	}
	for _, n := range []int{-1, 0, 1, api.MaxParam, api.MaxParam + 1} {
		l = append(l, func(x *api.Split) { x.Size = n })
	}
	for n := range 3 {
		l = append(l, func(x *api.Split) { x.Kids = slices.Clone(x.Kids[:min(n, len(x.Kids))]) })
	}
	return append(l, func(x *api.Split) {
		x.Kids = append(slices.Clone(x.Kids), api.Split{Pane: nth(21), Size: 1})
	})
}

// copyOf x, all of it.
func copyOf(x api.Split) api.Split {
	x.Kids = slices.Clone(x.Kids)
	for i, k := range x.Kids {
		x.Kids[i] = copyOf(k)
	}
	return x
}

// holdCheck: does Check say what the model says?
func holdCheck(t *testing.T, x api.Split) {
	t.Helper()
	if e, want := Check(x), firstFlaw(x); e != want {
		t.Errorf("Check of %s: %d, want %d", show(x), e, want)
	}
}

// Each part of many splits is changed in each of these ways.
func TestCheckOneChange(t *testing.T) {
	for _, x := range append(every(4), some()...) {
		for i := range nodes(&x) {
			for _, change := range changes() {
				y := copyOf(x)
				change(nodes(&y)[i])
				holdCheck(t, y)
			}
		}
	}
}

// Two changes at once, in one part and in two.
func TestCheckTwoChanges(t *testing.T) {
	for _, x := range append(every(3), of("{[1,{2,3}],4}"), of("["+many(12)+"]")) {
		for i := range nodes(&x) {
			for j := range i + 1 {
				for _, one := range changes() {
					for _, two := range changes() {
						y := copyOf(x)
						l := nodes(&y)
						one(l[i]) // the one that lies deeper first: the other may take it away
						two(l[j])
						holdCheck(t, y)
					}
				}
			}
		}
	}
}

func TestPanes(t *testing.T) {
	for text, want := range map[string][]int{
		"7": {7}, "{1,2}": {1, 2}, "[2,1]": {2, 1}, "{1,[2,3]*2}": {1, 2, 3}, "[{9,8},7]": {9, 8, 7}, "{[5,{1,3}],[9999,2],4}": {5, 1, 3, 9999, 2, 4}, "{" + many(12) + "}": {1, 2, 3, 4, 5, 6, 7, 8, 9, 10, 11, 12},
	} {
		if got := Panes(of(text)); !slices.Equal(got, want) {
			t.Errorf("Panes of %s = %v, want %v", text, got, want)
		}
	}
	for _, x := range append(every(6), some()...) {
		var want []int
		for i := range order(x) {
			want = append(want, nth(i))
		}
		if got := Panes(x); !slices.Equal(got, want) {
			t.Errorf("Panes of %s = %v, want %v", show(x), got, want)
		}
	}
}
