package split

import (
	"fmt"
	"math"
	"slices"
	"testing"

	"trellis/api"
)

// tree: a split that is changed where it stands, for the models.
type tree struct {
	way, pane, size int
	kids            []*tree
}

func treeOf(x api.Split) *tree {
	t := &tree{way: x.Way, pane: x.Pane, size: x.Size}
	for _, k := range x.Kids {
		t.kids = append(t.kids, treeOf(k))
	}
	return t
}

func (a *tree) split() api.Split {
	x := api.Split{Way: a.way, Pane: a.pane, Size: a.size}
	for _, k := range a.kids {
		x.Kids = append(x.Kids, k.split())
	}
	return x
}

// find the leaf of a pane, and what it is a part of (nil: of nothing).
func (a *tree) find(pane int) (leaf, up *tree) {
	if a.way == api.Leaf && a.pane == pane {
		return a, nil
	}
	for _, k := range a.kids {
		leaf, up := k.find(pane)
		if leaf != nil && up == nil {
			return leaf, a
		}
		if leaf != nil {
			return leaf, up
		}
	}
	return nil, nil
}

// cutModel: what P13.3 says of Cut.
func cutModel(x api.Split, pane, way, fresh int) api.Split {
	root := treeOf(x)
	leaf, up := root.find(pane)
	if up != nil && up.way == way {
		i := slices.Index(up.kids, leaf)
		up.kids = slices.Insert(up.kids, i+1, &tree{pane: fresh, size: leaf.size})
	} else {
		*leaf = tree{way: way, size: leaf.size, kids: []*tree{{pane: pane, size: 1}, {pane: fresh, size: 1}}}
	}
	return root.split()
}

// dropModel: what P13.3 says of Drop: the leaf goes, and as long as something isn't as it must be, that is mended.
func dropModel(x api.Split, pane int) api.Split {
	root := treeOf(x)
	leaf, up := root.find(pane)
	i := slices.Index(up.kids, leaf)
	up.kids = slices.Delete(up.kids, i, i+1)
	for root.mend() {
	}
	return root.split()
}

// mend one thing, if there is something to be mended.
func (a *tree) mend() bool {
	if len(a.kids) == 1 {
		only := *a.kids[0]
		only.size = a.size
		*a = only
		return true
	}
	for i, k := range a.kids {
		if k.way == a.way {
			a.kids = slices.Replace(a.kids, i, i+1, k.kids...)
			return true
		}
		if k.mend() {
			return true
		}
	}
	return false
}

// P13.3

func TestCut(t *testing.T) {
	const row, column = api.Row, api.Column
	for _, c := range []struct {
		text             string
		pane, way, fresh int
		want             string
	}{
		// a leaf alone
		{"1", 1, row, 2, "{1,2}"},
		{"1", 1, column, 9999, "[1,9999]"},
		{"5*7", 5, row, 1, "{5,1}*7"},
		{"5*9999", 5, column, 1, "[5,1]*9999"},
		// a part of what goes that way: first, between, last, with another Size
		{"{1,2,3}", 1, row, 4, "{1,4,2,3}"},
		{"{1,2,3}", 2, row, 4, "{1,2,4,3}"},
		{"{1,2,3}", 3, row, 4, "{1,2,3,4}"},
		{"[1*5,2,3*7]*2", 1, column, 4, "[1*5,4*5,2,3*7]*2"},
		{"[1*5,2,3*7]*2", 2, column, 4, "[1*5,2,4,3*7]*2"},
		{"[1*5,2,3*7]*2", 3, column, 4, "[1*5,2,3*7,4*7]*2"},
		{"{1,[2,3]*2}", 3, column, 4, "{1,[2,3,4]*2}"},
		{"{1,[2*3,3]*2}", 2, column, 4, "{1,[2*3,4*3,3]*2}"},
		{"{[1,2],3*9999}", 3, row, 4, "{[1,2],3*9999,4*9999}"},
		// a part of what goes the other way
		{"{1,2}", 1, column, 3, "{[1,3],2}"},
		{"{1,2}", 2, column, 3, "{1,[2,3]}"},
		{"[1*4,2*5]*6", 1, row, 3, "[{1,3}*4,2*5]*6"},
		{"[1*4,2*5]*6", 2, row, 3, "[1*4,{2,3}*5]*6"},
		{"{1,[2,3]*2}", 1, column, 4, "{[1,4],[2,3]*2}"},
		{"{1,[2*3,3]*2}", 2, row, 4, "{1,[{2,4}*3,3]*2}"},
		{"{1,[2,{3,4*8}]}", 4, column, 5, "{1,[2,{3,[4,5]*8}]}"},
		// up to as many as there may be
		{"{" + many(11) + "}", 11, row, 12, "{" + many(12) + "}"},
		{"[" + many(11) + "]*3", 1, row, 12, "[{1,12},2,3,4,5,6,7,8,9,10,11]*3"},
	} {
		got, e := Cut(of(c.text), c.pane, c.way, c.fresh)
		is(t, fmt.Sprintf("Cut(%s, %d, %d, %d)", c.text, c.pane, c.way, c.fresh), got, e, of(c.want))
	}
}

func TestCutWrong(t *testing.T) {
	full := "{" + many(12) + "}"
	for _, c := range []struct {
		text             string
		pane, way, fresh int
		want             api.Errno
	}{
		// no such pane
		{"1", 2, api.Row, 3, api.ErrWho}, {"1", 0, api.Row, 3, api.ErrWho}, {"1", -1, api.Row, 3, api.ErrWho}, {"{1,2}", 3, api.Row, 4, api.ErrWho}, {"{1*3,[2,4]*5}", 3, api.Row, 6, api.ErrWho}, {"{1*3,[2,4]*5}", 5, api.Row, 6, api.ErrWho}, {"{1,2}", 10000, api.Row, 4, api.ErrWho}, {"{1,2}", math.MaxInt, api.Row, 4, api.ErrWho}, {"{1,2}", math.MinInt, api.Row, 4, api.ErrWho},
		// a way that is neither
		{"1", 1, api.Leaf, 2, api.ErrRange}, {"1", 1, 3, 2, api.ErrRange}, {"1", 1, -1, 2, api.ErrRange}, {"{1,2}", 1, api.Leaf, 3, api.ErrRange}, {"{1,2}", 1, noWay, 3, api.ErrRange}, {"{1,2}", 1, math.MaxInt, 3, api.ErrRange}, {"{1,2}", 1, math.MinInt, 3, api.ErrRange},
		// fresh
		{"1", 1, api.Row, 0, api.ErrRange}, {"1", 1, api.Row, -1, api.ErrRange}, {"1", 1, api.Column, 10000, api.ErrRange}, {"{1,2}", 1, api.Column, math.MinInt, api.ErrRange}, {"{1,2}", 1, api.Column, math.MaxInt, api.ErrRange},
		{"1", 1, api.Row, 1, api.ErrTwice}, {"{1,2}", 1, api.Row, 1, api.ErrTwice}, {"{1,2}", 1, api.Row, 2, api.ErrTwice}, {"{1,[2,3]}", 1, api.Row, 3, api.ErrTwice}, {"{1,[2,3]}", 3, api.Column, 1, api.ErrTwice},
		// full
		{full, 1, api.Row, 13, api.ErrFull}, {full, 12, api.Column, 9999, api.ErrFull}, {"{[1,2],[3,4],[5,6],[7,8],[9,10],[11,12]}", 6, api.Row, 13, api.ErrFull},
		// two at once
		{"1", 2, 0, 3, api.ErrWho}, {"1", 2, 3, 3, api.ErrWho}, {"1", 2, api.Row, 0, api.ErrWho}, {"1", 2, api.Row, 10000, api.ErrWho}, {"1", 2, api.Row, 1, api.ErrWho}, {"1", 0, 0, 0, api.ErrWho}, {full, 13, api.Row, 14, api.ErrWho},
		{"{1,2}", 1, 0, 2, api.ErrRange}, {"{1,2}", 1, 0, 0, api.ErrRange}, {"{1,2}", 1, 3, 1, api.ErrRange}, {full, 1, 0, 13, api.ErrRange}, {full, 1, api.Row, 0, api.ErrRange}, {full, 1, api.Row, 10000, api.ErrRange},
		{full, 1, api.Row, 1, api.ErrTwice}, {full, 1, api.Column, 12, api.ErrTwice},
	} {
		got, e := Cut(of(c.text), c.pane, c.way, c.fresh)
		no(t, fmt.Sprintf("Cut(%s, %d, %d, %d)", c.text, c.pane, c.way, c.fresh), got, e, c.want)
	}
}

func TestDrop(t *testing.T) {
	for _, c := range []struct {
		text string
		pane int
		want string
	}{
		// one of two
		{"{1,2}", 1, "2"},
		{"{1,2}", 2, "1"},
		{"[1*3,2*4]", 1, "2"},
		{"[1*3,2*4]*5", 2, "1*5"},
		{"{1,[2,3]*2}", 2, "{1,3*2}"},
		{"{1,[2*5,3*6]*2}", 3, "{1,2*2}"},
		{"{1,[2*5,3*6]}", 3, "{1,2}"},
		// one of three
		{"{1*2,2*3,3*4}*5", 1, "{2*3,3*4}*5"},
		{"{1*2,2*3,3*4}*5", 2, "{1*2,3*4}*5"},
		{"{1*2,2*3,3*4}*5", 3, "{1*2,2*3}*5"},
		{"{1,[2,3*6,4*7]*2}", 2, "{1,[3*6,4*7]*2}"},
		// what is left is parts
		{"{1,[2,3]*2}", 1, "[2,3]"},
		{"{1,[2*7,3]*2}*4", 1, "[2*7,3]*4"},
		{"[{1*3,2*4}*9,3]*5", 3, "{1*3,2*4}*5"},
		// what is left goes the same way as what it comes to lie in
		{"{1,[2,{3,4}]}", 2, "{1,3,4}"},
		{"{1*8,[2*2,{3*3,4*4}*5]*6,5*9}*7", 2, "{1*8,3*3,4*4,5*9}*7"},
		{"{[{3*3,4*4}*5,2*2]*6,5*9}*7", 2, "{3*3,4*4,5*9}*7"},
		{"[1,{2,[3,4,{5,6}]*2}]", 2, "[1,3,4,{5,6}]"},
		{"{1,[2,{3,[4,{5,6}]}]}", 4, "{1,[2,{3,5,6}]}"},
		{"{1,[2,{3,[4,{5,6}]}]}", 3, "{1,[2,4,{5,6}]}"},
		{"{1,[2,{3,[4*7,{5,6}]*9}*8]}", 2, "{1,3,[4*7,{5,6}]*9}"},
		{"{1,[2,{3,4}]}", 1, "[2,{3,4}]"},
		{"{1,[2,{3,4}*5]}", 3, "{1,[2,4*5]}"},
		{"{1,[2,3,{4,5}]}", 2, "{1,[3,{4,5}]}"},
		{"{" + many(12) + "}", 12, "{" + many(11) + "}"},
	} {
		got, e := Drop(of(c.text), c.pane)
		is(t, fmt.Sprintf("Drop(%s, %d)", c.text, c.pane), got, e, of(c.want))
	}
	for _, c := range []struct {
		text string
		pane int
		want api.Errno
	}{
		{"1", 1, api.ErrLast}, {"9999*5", 9999, api.ErrLast}, {"1", 2, api.ErrWho}, {"1", 0, api.ErrWho}, {"2*1", 1, api.ErrWho}, {"{1,2}", 3, api.ErrWho}, {"{1*4,[2,3]*5}", 4, api.ErrWho}, {"{1,2}", 0, api.ErrWho}, {"{1,2}", -1, api.ErrWho}, {"{1,2}", math.MaxInt, api.ErrWho}, {"{1,2}", math.MinInt, api.ErrWho},
	} {
		got, e := Drop(of(c.text), c.pane)
		no(t, fmt.Sprintf("Drop(%s, %d)", c.text, c.pane), got, e, c.want)
	}
}

// Each pane of many splits is cut each way, and dropped.
func TestCutAndDrop(t *testing.T) {
	const fresh = 4321
	for _, x := range append(every(6), some()...) {
		for _, pane := range order(x) {
			if len(order(x)) > 1 {
				got, e := Drop(x, pane)
				is(t, fmt.Sprintf("Drop(%s, %d)", show(x), pane), got, e, dropModel(x, pane))
				right(t, got)
			}
			for _, way := range []int{api.Row, api.Column} {
				if len(order(x)) == api.MaxPanes {
					continue
				}
				got, e := Cut(x, pane, way, fresh)
				is(t, fmt.Sprintf("Cut(%s, %d, %d, %d)", show(x), pane, way, fresh), got, e, cutModel(x, pane, way, fresh))
				right(t, got)
				back, e := Drop(got, fresh)
				is(t, fmt.Sprintf("Drop(%s, %d)", show(got), fresh), back, e, x)
			}
		}
	}
}

// right: does Check take it?
func right(t *testing.T, x api.Split) {
	t.Helper()
	if e := firstFlaw(x); e != api.OK {
		t.Errorf("%s: %d", show(x), e)
	}
}

// P13.4

// renamed: x with each pane's number as f says.
func renamed(x api.Split, f func(int) int) api.Split {
	x = copyOf(x)
	for _, n := range nodes(&x) {
		if n.Way == api.Leaf {
			n.Pane = f(n.Pane)
		}
	}
	return x
}

func TestSwap(t *testing.T) {
	for _, c := range []struct {
		text string
		a, b int
		want string
	}{
		{"{1,2}", 1, 2, "{2,1}"}, {"{1,2}", 2, 1, "{2,1}"}, {"[1,2,3]", 1, 3, "[3,2,1]"}, {"{1,[2,3]*2}", 1, 3, "{3,[2,1]*2}"}, {"{1,[2,3]*2}", 2, 3, "{1,[3,2]*2}"},
		// Sizes stay where they are
		{"{1*5,2*6}*7", 1, 2, "{2*5,1*6}*7"}, {"{1*5,[2*6,3*8]*2}", 3, 1, "{3*5,[2*6,1*8]*2}"},
		// one and the same
		{"1", 1, 1, "1"}, {"1*6", 1, 1, "1*6"}, {"{1*5,2*6}", 2, 2, "{1*5,2*6}"},
	} {
		got, e := Swap(of(c.text), c.a, c.b)
		is(t, fmt.Sprintf("Swap(%s, %d, %d)", c.text, c.a, c.b), got, e, of(c.want))
	}
	for _, c := range [][2]int{{1, 4}, {4, 1}, {4, 4}, {4, 5}, {0, 1}, {1, 0}, {0, 0}, {-1, 1}, {1, -1}, {1, 10000}, {5, 2}, {2, 5}, {math.MaxInt, math.MinInt}, {1, math.MaxInt}} {
		got, e := Swap(of("{1*5,[2,3]*4}"), c[0], c[1])
		no(t, fmt.Sprintf("Swap by %v", c), got, e, api.ErrWho)
	}
	for _, x := range append(every(5), some()...) {
		for _, a := range order(x) {
			for _, b := range order(x) {
				got, e := Swap(x, a, b)
				is(t, fmt.Sprintf("Swap(%s, %d, %d)", show(x), a, b), got, e, renamed(x, func(pane int) int {
					switch pane {
					case a:
						return b
					case b:
						return a
					}
					return pane
				}))
			}
		}
	}
}

// Both panes have each other's cells then.
func TestSwapPlaces(t *testing.T) {
	for _, x := range some() {
		l := order(x)
		a, b := l[0], l[len(l)/2]
		y, _ := Swap(x, a, b)
		was, _ := Lay(x, 100, 50)
		now, _ := Lay(y, 100, 50)
		for i, p := range was {
			switch p.Pane {
			case a:
				p.Pane = b
			case b:
				p.Pane = a
			}
			if now[i] != p {
				t.Errorf("Swap(%s, %d, %d): %v, want %v", show(x), a, b, now[i], p)
			}
		}
	}
}

func TestRotate(t *testing.T) {
	for text, want := range map[string]string{
		"1": "1", "7*6": "7*6", "{1,2}": "{2,1}", "[1*5,2*6]*7": "[2*5,1*6]*7", "{1,2,3}": "{3,1,2}", "{1,[2,3]*2}": "{3,[1,2]*2}", "[{1*2,[2*3,3*4]*5}*6,4*7]": "[{4*2,[1*3,2*4]*5}*6,3*7]", "{9,[3,{7,1}],5}": "{5,[9,{3,7}],1}", "{" + many(12) + "}": "{12," + many(11) + "}",
	} {
		got, e := Rotate(of(text))
		is(t, "Rotate of "+text, got, e, of(want))
	}
	for _, x := range append(every(6), some()...) {
		l := order(x)
		got, e := Rotate(x)
		is(t, "Rotate of "+show(x), got, e, renamed(x, func(pane int) int {
			i := slices.Index(l, pane)
			if i == 0 {
				return l[len(l)-1]
			}
			return l[i-1]
		}))
		for range len(l) - 1 {
			got, _ = Rotate(got)
		}
		is(t, "as many times as there are panes, Rotate of "+show(x), got, api.OK, x)
	}
}

func TestGrow(t *testing.T) {
	for _, c := range []struct {
		text     string
		pane, by int
		want     string
	}{
		{"1", 1, 0, "1"}, {"1", 1, 1, "1*2"}, {"1", 1, -1, "1"}, {"1*5", 1, -1, "1*4"}, {"1*5", 1, -4, "1"}, {"1*5", 1, -5, "1"}, {"1*5", 1, -6, "1"}, {"1*5", 1, 9994, "1*9999"}, {"1*5", 1, 9993, "1*9998"}, {"1*5", 1, 9995, "1*9999"},
		{"1", 1, 9998, "1*9999"}, {"1", 1, 9999, "1*9999"}, {"1", 1, 10000, "1*9999"}, {"1*9999", 1, -9998, "1"}, {"1*9999", 1, -9997, "1*2"}, {"1*9999", 1, -9999, "1"}, {"1*9999", 1, -10000, "1"}, {"1*9999", 1, 1, "1*9999"}, {"1*9999", 1, 9999, "1*9999"},
		{"1", 1, math.MaxInt, "1*9999"}, {"1", 1, math.MinInt, "1"}, {"1*9999", 1, math.MaxInt, "1*9999"}, {"1*9999", 1, math.MinInt, "1"}, {"1*7", 1, math.MaxInt - 3, "1*9999"}, {"1*7", 1, math.MinInt + 3, "1"},
		{"{1,[2,3]*2}", 2, 4, "{1,[2*5,3]*2}"}, {"{1,[2,3]*2}", 1, 4, "{1*5,[2,3]*2}"}, {"{1,[2,3*6]*2}*3", 3, -2, "{1,[2,3*4]*2}*3"}, {"{1,[2,3*6]*2}*3", 3, 0, "{1,[2,3*6]*2}*3"}, {"{1*3,2*3}", 2, 3, "{1*3,2*6}"},
	} {
		got, e := Grow(of(c.text), c.pane, c.by)
		is(t, fmt.Sprintf("Grow(%s, %d, %d)", c.text, c.pane, c.by), got, e, of(c.want))
	}
	for _, pane := range []int{0, -1, 4, 5, 6, 9999, 10000, math.MaxInt, math.MinInt} {
		for _, by := range []int{0, 1, -1, math.MaxInt, math.MinInt} {
			got, e := Grow(of("{1*4,[2,3]*5}*6"), pane, by)
			no(t, fmt.Sprintf("Grow of %d by %d", pane, by), got, e, api.ErrWho)
		}
	}
	for _, x := range append(every(5), some()...) {
		for _, pane := range order(x) {
			for _, by := range []int{-9999, -100, -3, -1, 0, 1, 5, 9899, 9999} {
				want := treeOf(x)
				leaf, _ := want.find(pane)
				leaf.size = min(9999, max(1, leaf.size+by))
				got, e := Grow(x, pane, by)
				is(t, fmt.Sprintf("Grow(%s, %d, %d)", show(x), pane, by), got, e, want.split())
			}
		}
	}
}

func TestEven(t *testing.T) {
	for _, c := range []struct {
		text string
		way  int
		want string
	}{
		{"1", api.Row, "1"}, {"1", api.Column, "1"}, {"7*6", api.Row, "7"}, {"{1,2}", api.Row, "{1,2}"}, {"{1,2}", api.Column, "[1,2]"}, {"{1*3,2*4}*5", api.Row, "{1,2}"}, {"[1*3,2*4]*5", api.Row, "{1,2}"}, {"{1,[2,3]*2}", api.Column, "[1,2,3]"}, {"[{9*5,[3,7]*6},{1,4}*2,2]*8", api.Row, "{9,3,7,1,4,2}"}, {"{" + many(12) + "}", api.Column, "[" + many(12) + "]"},
	} {
		got, e := Even(of(c.text), c.way)
		is(t, fmt.Sprintf("Even(%s, %d)", c.text, c.way), got, e, of(c.want))
	}
	for _, text := range []string{"1", "{1,2}", "{1,[2,3]*2}"} {
		for _, way := range []int{api.Leaf, 3, -1, noWay, math.MaxInt, math.MinInt} {
			got, e := Even(of(text), way)
			no(t, fmt.Sprintf("Even(%s, %d)", text, way), got, e, api.ErrRange)
		}
	}
	for _, x := range append(every(5), some()...) {
		for _, way := range []int{api.Row, api.Column} {
			got, e := Even(x, way)
			if l := order(x); e != api.OK || !slices.Equal(order(got), l) || len(l) > 1 && (got.Way != way || len(got.Kids) != len(l)) {
				t.Errorf("Even(%s, %d) = %s, %d", show(x), way, show(got), e)
			}
			for _, n := range nodes(&got) {
				if n.Size != 1 {
					t.Errorf("Even(%s, %d) = %s", show(x), way, show(got))
				}
			}
			right(t, got)
		}
	}
}
