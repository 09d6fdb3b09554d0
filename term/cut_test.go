package term

import (
	"slices"
	"strings"
	"testing"

	"trellis/api"
)

// P11.5

// cut b as these places say: what comes of it is what is wanted, as it was whole.
func cut(t *testing.T, x api.Term, b string, want api.Term, places ...int) {
	t.Helper()
	got, last := x, 0
	for _, place := range append(places, len(b)) {
		got = after(t, got, b[last:place])
		last = place
	}
	if !equal(got, want) {
		t.Fatalf("%q cut at %v: %+v, want %+v", b, places, got, want)
	}
}

func TestCutIntoTwo(t *testing.T) {
	for _, x := range terms() {
		for _, in := range states() {
			for _, b := range streams() {
				from := reading(x, in)
				want := after(t, from, b)
				for i := range len(b) + 1 {
					cut(t, from, b, want, i)
				}
			}
		}
	}
}

func TestCutIntoThree(t *testing.T) {
	for _, x := range []api.Term{base(), alt(at(base(), 3, 3))} {
		for _, b := range streams() {
			want := after(t, x, b)
			for i := range len(b) + 1 {
				for j := i; j <= len(b); j++ {
					cut(t, x, b, want, i, j)
				}
			}
		}
	}
}

func TestCutIntoBytes(t *testing.T) {
	for _, x := range terms() {
		for _, b := range append(streams(), longStream()) {
			var every []int
			for i := range len(b) {
				every = append(every, i)
			}
			for _, in := range states() {
				from := reading(x, in)
				cut(t, from, b, after(t, from, b), every...)
			}
		}
	}
}

// Whatever is said, in whatever order and however great the screens become, a terminal is a right one, and cuts make no difference.
func TestOnAndOn(t *testing.T) {
	bits := strings.Split("\x1b[|\x1b]|\x1b|?|;|3|5n|6n|0|1049|1049h|1049l|?1049h|?1049l|\x1b[?1049h|\x1b[?1049l|\x1b[6n|h|l|c|m|H|r|J|3J|K|L|M|S|9S|b|A|B|日|x|yz|\n|\n\n|\r|\t|\xe6|\x97|\xa5|\xff|\a|\x18| |2;t|u|s|d", "|")
	seed := uint32(1)
	next := func(n int) int {
		seed = seed*1664525 + 1013904223
		return int(seed>>8) % n
	}
	for _, x := range terms() {
		for range 120 {
			var b strings.Builder
			var places []int
			for range 1 + next(30) {
				b.WriteString(bits[next(len(bits))])
				if next(3) == 0 {
					places = append(places, b.Len()-next(2))
				}
			}
			slices.Sort(places)
			hold(t, x, b.String())
			whole := after(t, x, b.String())
			cut(t, x, b.String(), whole, places...)
			x = whole
			if next(4) == 0 {
				x = resized(t, x, 1+next(9), 1+next(6))
			}
			if next(4) == 0 {
				x, _, _ = Take(x)
			}
		}
	}
}
