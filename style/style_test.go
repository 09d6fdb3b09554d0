package style

import (
	"math"
	"slices"
	"testing"

	"trellis/api"
)

var none = api.Style{}

// full: a style of which every part is set, none of them as a short number would set it.
var full = api.Style{Fore: 101, Back: 102, Bits: 127}

// colours: the edges of each way to write one.
var colours = []int{0, 1, 2, 8, 9, 16, 17, 100, 255, 256}

// wrong styles: each has one part that may not be.
var wrong = []api.Style{
	{Fore: -1}, {Fore: 257}, {Fore: math.MinInt}, {Fore: math.MaxInt},
	{Back: -1}, {Back: 257}, {Back: math.MinInt}, {Back: math.MaxInt},
	{Bits: -1}, {Bits: 128}, {Bits: math.MinInt}, {Bits: math.MaxInt},
	{Fore: 1, Back: 2, Bits: 129}, {Fore: 1, Back: -2, Bits: 1}, {Fore: 300, Back: 2, Bits: 1},
}

// P2.1

func TestCheck(t *testing.T) {
	for _, c := range colours {
		for _, b := range []int{0, 1, 64, 127} {
			for _, s := range []api.Style{{Fore: c, Bits: b}, {Back: c, Bits: b}, {Fore: c, Back: c, Bits: b}} {
				if !Check(s) {
					t.Errorf("Check(%v) is false", s)
				}
			}
		}
	}
	for _, s := range wrong {
		if Check(s) {
			t.Errorf("Check(%v) is true", s)
		}
	}
}

func TestApplyLists(t *testing.T) {
	for _, c := range []struct {
		s    api.Style
		l    []int
		want api.Style
	}{
		{full, nil, none},
		{full, []int{}, none},
		{none, nil, none},
		{full, []int{0}, none},
		{full, []int{-1}, none},
		{full, []int{math.MinInt}, none},
		{full, []int{math.MaxInt}, full},
		{full, []int{999}, full},
		{full, []int{0, 1}, api.Style{Bits: api.Bold}},
		{none, []int{1, 0}, none},
		{none, []int{1, -1, 4}, api.Style{Bits: api.Under}},
		{none, []int{1, 41}, api.Style{Back: 2, Bits: api.Bold}},
		{none, []int{1, 1, 2}, api.Style{Bits: api.Bold | api.Faint}},
		{none, []int{1, 2, 3, 22}, api.Style{Bits: api.Italic}},
		{none, []int{31, 32}, api.Style{Fore: 3}},
		{none, []int{31, 39}, none},
		{none, []int{38, 5, 0}, api.Style{Fore: 1}},
		{none, []int{38, 5, 255}, api.Style{Fore: 256}},
		{none, []int{48, 5, 0}, api.Style{Back: 1}},
		{none, []int{48, 5, 255}, api.Style{Back: 256}},
		{none, []int{38, 5, 200, 48, 5, 100, 1}, api.Style{Fore: 201, Back: 101, Bits: api.Bold}},
		{none, []int{38, 5, 38, 5, 7}, api.Style{Fore: 39, Bits: api.Blink | api.Reverse}},
		// the colour is not of the table: both numbers go all the same, and the colour stays
		{full, []int{38, 5, 256}, full},
		{full, []int{38, 5, -1}, full},
		{full, []int{48, 5, 256}, full},
		{full, []int{48, 5, -1}, full},
		{full, []int{38, 5, math.MaxInt}, full},
		{full, []int{48, 5, math.MinInt}, full},
		{none, []int{38, 5, 256, 1}, api.Style{Bits: api.Bold}},
		// fewer than two numbers follow, or the first is another: 38 and 48 do nothing, and what follows is as ever
		{full, []int{38}, full},
		{full, []int{48}, full},
		{none, []int{38, 5}, api.Style{Bits: api.Blink}},
		{none, []int{48, 5}, api.Style{Bits: api.Blink}},
		{none, []int{38, 4, 1}, api.Style{Bits: api.Under | api.Bold}},
		{none, []int{48, 2, 3}, api.Style{Bits: api.Faint | api.Italic}},
		{none, []int{1, 38, 0, 5}, api.Style{Bits: api.Blink}},
		{none, []int{38, 38, 5, 9}, api.Style{Fore: 10}},
		{none, []int{38, 48, 5, 9}, api.Style{Back: 10}},
		{none, []int{49, 5, 9}, api.Style{Bits: api.Blink | api.Strike}},
	} {
		if got := Apply(c.s, c.l); got != c.want {
			t.Errorf("Apply(%v, %v) = %v, want %v", c.s, c.l, got, c.want)
		}
	}
}

// alone: what the number n does to s, told number by number.
func alone(s api.Style, n int) api.Style {
	bits := map[int]int{1: 1, 2: 2, 3: 4, 4: 8, 5: 16, 7: 32, 9: 64}
	off := map[int]int{22: 3, 23: 4, 24: 8, 25: 16, 27: 32, 29: 64}
	fore := map[int]int{30: 1, 31: 2, 32: 3, 33: 4, 34: 5, 35: 6, 36: 7, 37: 8, 39: 0, 90: 9, 91: 10, 92: 11, 93: 12, 94: 13, 95: 14, 96: 15, 97: 16}
	back := map[int]int{40: 1, 41: 2, 42: 3, 43: 4, 44: 5, 45: 6, 46: 7, 47: 8, 49: 0, 100: 9, 101: 10, 102: 11, 103: 12, 104: 13, 105: 14, 106: 15, 107: 16}
	if n <= 0 {
		return none
	}
	s.Bits = (s.Bits | bits[n]) &^ off[n]
	if c, ok := fore[n]; ok {
		s.Fore = c
	}
	if c, ok := back[n]; ok {
		s.Back = c
	}
	return s
}

func TestApplyEveryNumber(t *testing.T) {
	for n := -300; n <= 1100; n++ {
		for _, s := range []api.Style{none, full, {Fore: 3, Back: 12, Bits: 85}, {Fore: 12, Back: 3, Bits: 42}} {
			if got, want := Apply(s, []int{n}), alone(s, n); got != want {
				t.Errorf("Apply(%v, [%d]) = %v, want %v", s, n, got, want)
			}
			if got, want := Apply(s, []int{n, 9}), alone(alone(s, n), 9); got != want {
				t.Errorf("Apply(%v, [%d 9]) = %v, want %v", s, n, got, want)
			}
		}
	}
}

func TestApplyEveryColourOfTheTable(t *testing.T) {
	for n := -10; n <= 270; n++ {
		front, back := full, full
		if n >= 0 && n <= 255 {
			front.Fore, back.Back = n+1, n+1
		}
		if got := Apply(full, []int{38, 5, n}); got != front {
			t.Errorf("Apply(%v, [38 5 %d]) = %v, want %v", full, n, got, front)
		}
		if got := Apply(full, []int{48, 5, n}); got != back {
			t.Errorf("Apply(%v, [48 5 %d]) = %v, want %v", full, n, got, back)
		}
	}
}

// A style stays right whatever is applied to it, and no call reads past a list's end, whatever lies in the room behind it.
func TestApplyKeepsStyles(t *testing.T) {
	numbers := []int{math.MinInt, -1, 0, 1, 5, 22, 29, 37, 38, 39, 48, 97, 107, 200, 255, 256, math.MaxInt}
	for _, a := range numbers {
		for _, b := range numbers {
			for _, c := range numbers {
				room := []int{a, b, c}
				for n := range 4 {
					s := Apply(full, room[:n])
					if !Check(s) {
						t.Fatalf("Apply(%v, %v) = %v, which is no style", full, room[:n], s)
					}
					if fresh := Apply(full, slices.Clone(room[:n])); s != fresh {
						t.Fatalf("Apply(%v, %v) hangs on the room behind its list: %v, %v", full, room[:n], s, fresh)
					}
				}
				if !slices.Equal(room, []int{a, b, c}) {
					t.Fatalf("Apply changed its list: %v", room)
				}
			}
		}
	}
}

// P2.2

func TestNumbers(t *testing.T) {
	for _, c := range []struct {
		s    api.Style
		want []int
	}{
		{none, nil},
		{api.Style{Bits: 127}, []int{1, 2, 3, 4, 5, 7, 9}},
		{api.Style{Bits: api.Strike | api.Faint}, []int{2, 9}},
		{api.Style{Fore: 1}, []int{30}},
		{api.Style{Fore: 8}, []int{37}},
		{api.Style{Fore: 9}, []int{90}},
		{api.Style{Fore: 16}, []int{97}},
		{api.Style{Fore: 17}, []int{38, 5, 16}},
		{api.Style{Fore: 256}, []int{38, 5, 255}},
		{api.Style{Back: 1}, []int{40}},
		{api.Style{Back: 8}, []int{47}},
		{api.Style{Back: 9}, []int{100}},
		{api.Style{Back: 16}, []int{107}},
		{api.Style{Back: 17}, []int{48, 5, 16}},
		{api.Style{Back: 256}, []int{48, 5, 255}},
		{api.Style{Fore: 2, Back: 20, Bits: api.Bold | api.Reverse}, []int{1, 7, 31, 48, 5, 19}},
		{full, []int{1, 2, 3, 4, 5, 7, 9, 38, 5, 100, 48, 5, 101}},
	} {
		if got := Numbers(c.s); !slices.Equal(got, c.want) {
			t.Errorf("Numbers(%v) = %v, want %v", c.s, got, c.want)
		}
	}
	for _, s := range wrong {
		if got := Numbers(s); len(got) != 0 {
			t.Errorf("Numbers(%v) = %v of what is no style", s, got)
		}
	}
}

func TestTurn(t *testing.T) {
	for _, c := range []struct {
		from, to api.Style
		want     []int
	}{
		{none, none, nil},
		{full, full, nil},
		{full, none, []int{0}},
		{api.Style{Fore: 3}, none, []int{0}},
		{api.Style{Bits: 1}, none, []int{0}},
		{none, full, []int{1, 2, 3, 4, 5, 7, 9, 38, 5, 100, 48, 5, 101}},
		{api.Style{Bits: 3}, api.Style{Bits: 1}, []int{0, 1}},
		{api.Style{Fore: 4, Back: 5, Bits: 3}, api.Style{Fore: 4, Back: 5, Bits: 5}, []int{0, 1, 3, 33, 44}},
		{api.Style{Bits: api.Strike}, api.Style{Back: 100}, []int{0, 48, 5, 99}},
		{api.Style{Fore: 2, Bits: 1}, api.Style{Fore: 3, Bits: 9}, []int{4, 32}},
		{api.Style{Bits: 2}, api.Style{Bits: 127}, []int{1, 3, 4, 5, 7, 9}},
		{api.Style{Fore: 3, Back: 2}, api.Style{Back: 2}, []int{39}},
		{api.Style{Fore: 3, Back: 2}, api.Style{Fore: 3}, []int{49}},
		{api.Style{Fore: 3, Back: 2}, api.Style{Bits: 1}, []int{1, 39, 49}},
		{api.Style{Fore: 3, Back: 2}, api.Style{Fore: 16, Back: 17}, []int{97, 48, 5, 16}},
		{api.Style{Fore: 3, Back: 9}, api.Style{Fore: 17, Back: 9}, []int{38, 5, 16}},
		{api.Style{Fore: 20, Back: 9}, api.Style{Fore: 20, Back: 8}, []int{47}},
	} {
		if got := Turn(c.from, c.to); !slices.Equal(got, c.want) {
			t.Errorf("Turn(%v, %v) = %v, want %v", c.from, c.to, got, c.want)
		}
	}
	for _, s := range wrong {
		for _, o := range append([]api.Style{none, full}, wrong...) {
			if got := Turn(s, o); len(got) != 0 {
				t.Errorf("Turn(%v, %v) = %v from what is no style", s, o, got)
			}
			if got := Turn(o, s); len(got) != 0 {
				t.Errorf("Turn(%v, %v) = %v to what is no style", o, s, got)
			}
		}
	}
}

func TestAnswersAreNewMemory(t *testing.T) {
	answers := map[string]func() []int{
		"Numbers": func() []int { return Numbers(full) },
		"Turn":    func() []int { return Turn(none, full) },
		"Turn, 0": func() []int { return Turn(full, api.Style{Fore: 3, Bits: 1}) },
	}
	for name, answer := range answers {
		first, second := answer(), answer()
		want := slices.Clone(second)
		first = first[:cap(first)]
		for i := range first {
			first[i] = -7
		}
		if !slices.Equal(second, want) || !slices.Equal(answer(), want) {
			t.Errorf("%s: two answers share memory", name)
		}
	}
}

// P2.3

func TestWrite(t *testing.T) {
	for _, c := range []struct {
		l    []int
		want string
	}{
		{nil, ""},
		{[]int{}, ""},
		{[]int{0}, "\x1b[0m"},
		{[]int{1, 41}, "\x1b[1;41m"},
		{[]int{0, 0}, "\x1b[0;0m"},
		{[]int{38, 5, 200, 1}, "\x1b[38;5;200;1m"},
		{[]int{-1}, "\x1b[-1m"},
		{[]int{7, -20, 100}, "\x1b[7;-20;100m"},
		{[]int{math.MaxInt64, math.MinInt64}, "\x1b[9223372036854775807;-9223372036854775808m"},
	} {
		l := slices.Clone(c.l)
		if got := Write(l); got != c.want {
			t.Errorf("Write(%v) = %q, want %q", c.l, got, c.want)
		}
		if !slices.Equal(l, c.l) {
			t.Errorf("Write changed its list: %v, was %v", l, c.l)
		}
	}
}

// P2.4

func TestApplyUndoesNumbers(t *testing.T) {
	back := func(s api.Style) {
		if got := Apply(none, Numbers(s)); got != s {
			t.Fatalf("Apply of Numbers(%v) = %v", s, got)
		}
	}
	for c := 0; c <= api.MaxColour; c++ {
		for bits := range 128 {
			for _, other := range colours {
				back(api.Style{Fore: c, Back: other, Bits: bits})
				back(api.Style{Fore: other, Back: c, Bits: bits})
			}
		}
	}
}

func TestApplyOfTurn(t *testing.T) {
	var styles []api.Style
	for _, fore := range []int{0, 1, 9, 17} {
		for _, back := range []int{0, 8, 16, 256} {
			for bits := range 128 {
				styles = append(styles, api.Style{Fore: fore, Back: back, Bits: bits})
			}
		}
	}
	for _, from := range styles {
		for _, to := range styles {
			l := Turn(from, to)
			if from == to {
				if len(l) != 0 {
					t.Fatalf("Turn(%v, %v) = %v", from, to, l)
				}
				continue // nothing is to be written, and nothing applied
			}
			if got := Apply(from, l); got != to {
				t.Fatalf("Apply(%v, Turn to %v: %v) = %v", from, to, l, got)
			}
		}
	}
}
