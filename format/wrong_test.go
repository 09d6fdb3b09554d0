package format

import (
	"math"
	"slices"
	"strings"
	"testing"

	"trellis/api"
)

// refusesState: is that the error, and nothing else?
func refusesState(t *testing.T, left, right string, n int, want api.Errno) {
	t.Helper()
	if got, e := State(left, right, n); got != "" || e != want {
		t.Errorf("State(%.20q, %.20q, %d) = %.20q, %d; want %d", left, right, n, got, e, want)
	}
}

func TestStateWrong(t *testing.T) {
	for _, n := range []int{math.MinInt, -121, -2, -1, 0, api.MaxWide + 1, api.MaxWide + 2, 255, 256, 1 << 32, 1<<32 + 1, math.MaxInt} {
		refusesState(t, "left", "right", n, api.ErrSize)
		refusesState(t, "", "", n, api.ErrSize)
	}
	full := strings.Repeat("a", api.MaxText)
	for _, long := range []string{full + "a", strings.Repeat("\n", api.MaxText+1), strings.Repeat("日", 1+api.MaxText/3), strings.Repeat("\u0301", 1<<20)} {
		for _, n := range []int{1, 7, api.MaxWide} {
			refusesState(t, long, "", n, api.ErrMany)
			refusesState(t, "", long, n, api.ErrMany)
			refusesState(t, long, long, n, api.ErrMany)
			refusesState(t, full, long, n, api.ErrMany)
		}
		for _, n := range []int{0, -1, api.MaxWide + 1, math.MinInt, math.MaxInt} { // ahead of what is wrong with the size
			refusesState(t, long, "", n, api.ErrMany)
			refusesState(t, "", long, n, api.ErrMany)
		}
	}
	refusesState(t, full, full, 0, api.ErrSize)
}

// P2

// withRoom: l, with room behind it, in which something stands.
func withRoom(l []api.Item) []api.Item {
	return append(slices.Clone(l), api.Item{Name: "room", Value: "behind"}, api.Item{Name: "a", Value: "it"})[: len(l) : len(l)+2]
}

// No call changes what it was handed, or what stands behind it, or looks there; and each answers the same again.
func TestOnlyRead(t *testing.T) {
	for n := range len(things()) + 1 {
		items := withRoom(things()[:n])
		before := slices.Clone(items[:cap(items)])
		for _, s := range []string{"", "a", "#{a}#{room}#{none}", "#{=1:a}", "#{?room,a,#{a}}", "#{", "#{?a,b}", chain(9, "a", true), strings.Repeat("a", api.MaxText+1)} {
			out, at, e := Expand(s, items)
			if !slices.Equal(items[:cap(items)], before) {
				t.Fatalf("Expand(%.40q): the items were changed", s)
			}
			if out2, at2, e2 := Expand(s, slices.Clone(items)); out2 != out || at2 != at || e2 != e {
				t.Errorf("Expand(%.40q) = %q, %d, %d, then %q, %d, %d", s, out, at, e, out2, at2, e2)
			}
		}
	}
}

// An error leaves nothing behind: what comes next is answered as if it were the first.
func TestNothingKept(t *testing.T) {
	for _, wrong := range []string{"#{", "#{=1:", "#{?a,#{a}", strings.Repeat("#{?a,", 9), strings.Repeat("a", api.MaxText+1), strings.Repeat("#{wide}", 500)} {
		if _, _, e := Expand(wrong, things()); e == api.OK {
			t.Errorf("Expand(%.40q) answers", wrong)
		}
		makes(t, "#{a}#{?b,,#{wide}}", things(), "xy日本語")
		makes(t, "#{a}", nil, "")
	}
}
