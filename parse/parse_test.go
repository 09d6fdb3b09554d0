package parse

import (
	"fmt"
	"math"
	"slices"
	"strings"
	"testing"
	"unicode/utf8"

	"trellis/api"
)

func printed(c rune) api.Event   { return api.Event{Kind: api.Print, R: c} }
func control(b byte) api.Event   { return api.Event{Kind: api.Control, R: rune(b)} }
func system(s string) api.Event  { return api.Event{Kind: api.System, Text: s} }
func list(l ...api.Event) events { return l }

func escaped(middle string, final byte) api.Event {
	return api.Event{Kind: api.Escape, Middle: middle, Final: final}
}

func command(mark byte, params []int, middle string, final byte) api.Event {
	return api.Event{Kind: api.Command, Mark: mark, Params: params, Middle: middle, Final: final}
}

type events []api.Event

// wrongByte: what is told of a byte with which no rune begins.
var wrongByte = printed(0xFFFD)

// sameState: are two states alike? (A list with nothing in it may be nil or empty.)
func sameState(a, b api.State) bool {
	return a.At == b.At && a.Mark == b.Mark && a.Middle == b.Middle && slices.Equal(a.Params, b.Params) &&
		a.Text == b.Text && a.Left == b.Left && a.Late == b.Late
}

// sameEvents without Same, which is tested here, too.
func sameEvents(a, b []api.Event) bool {
	return slices.EqualFunc(a, b, func(x, y api.Event) bool {
		numbers := [2][4]int{{x.Kind, int(x.R), int(x.Final), int(x.Mark)}, {y.Kind, int(y.R), int(y.Final), int(y.Mark)}}
		texts := [2][2]string{{x.Middle, x.Text}, {y.Middle, y.Text}}
		return numbers[0] == numbers[1] && texts[0] == texts[1] && slices.Equal(x.Params, y.Params)
	})
}

// repeated: n times that number.
func repeated(number, n int) []int { return slices.Repeat([]int{number}, n) }

// rightStates: states in which a reader can be, with the edges of all that they have.
func rightStates() []api.State {
	all := []api.State{
		{},
		{At: api.InEscape},
		{At: api.InSkip},
		{At: api.InEscape, Params: []int{}},
		{At: api.InSystem},
		{At: api.InSystem, Late: true},
		{At: api.InSystem, Text: "0;t"},
		{At: api.InSystem, Text: "0;t", Late: true},
		{At: api.InSystem, Text: " \x7f\x80\xff"},
		{At: api.InSystem, Text: strings.Repeat("x", api.MaxString-1)},
		{At: api.InSystem, Text: strings.Repeat("x", api.MaxString)},
		{At: api.InSystem, Text: strings.Repeat("x", api.MaxString), Late: true},
	}
	for _, left := range []string{"\xc2", "\xdf", "\xe0", "\xe0\xa0", "\xe6\x97", "\xed\x9f", "\xf0", "\xf0\x9f", "\xf0\x9f\x98", "\xf4\x8f\xbf"} {
		all = append(all, api.State{Left: left})
	}
	for _, middle := range []string{" ", "(", "/", "  ", "//", "!/"} {
		all = append(all, api.State{At: api.InMiddle, Middle: middle})
	}
	for _, mark := range []byte{0, '<', '=', '>', '?'} {
		for _, middle := range []string{"", " ", "/", " /"} {
			for _, params := range [][]int{nil, {}, {0}, {-1}, {-1, -1}, {7, -1}, {1000}, {api.MaxParam - 1}, {-1, api.MaxParam}, repeated(-1, api.MaxParams-1), repeated(5, api.MaxParams)} {
				all = append(all, api.State{At: api.InCommand, Mark: mark, Middle: middle, Params: params})
			}
		}
	}
	return all
}

// wrongStates: each has one thing that may not be.
func wrongStates() []api.State {
	all := []api.State{
		{At: -1}, {At: 6}, {At: math.MinInt}, {At: math.MaxInt},
		{At: api.InMiddle},
		{At: api.InMiddle, Middle: "   "},
		{At: api.InCommand, Middle: "   "},
		{At: api.InCommand, Params: repeated(1, api.MaxParams+1)},
		{At: api.InSystem, Text: strings.Repeat("x", api.MaxString+1)},
	}
	for _, left := range []string{"a", " ", "\n", "\x7f", "\x80", "\xbf", "\xc0", "\xc1", "\xf5", "\xff", "\u00e9", "\u65e5", "\U0001f600", "\xe0\x9f", "\xed\xa0", "\xf4\x90", "\xf0\x8f", "\xe6a", "\xe6\x97a", "\xe6\x97\xa5\xe6", "\xe6\n", "a\xe6", "\xf0\x9f\x98\x80\x80", "\xf0\x9f\xc0"} {
		all = append(all, api.State{Left: left})
	}
	for _, b := range []byte{0, '\n', 0x1f, '0', '@', 0x7f, 0x80, 0xff} {
		for _, middle := range []string{string([]byte{b}), string([]byte{' ', b}), string([]byte{b, ' '})} {
			all = append(all, api.State{At: api.InMiddle, Middle: middle}, api.State{At: api.InCommand, Middle: middle})
		}
	}
	for _, n := range []int{-2, math.MinInt, api.MaxParam + 1, math.MaxInt} {
		all = append(all, api.State{At: api.InCommand, Params: []int{n}}, api.State{At: api.InCommand, Params: []int{1, n}}, api.State{At: api.InCommand, Params: []int{n, 1}})
	}
	for _, mark := range []byte{1, ' ', '0', ';', '@', 0x7f, 0xff} {
		all = append(all, api.State{At: api.InCommand, Mark: mark})
	}
	for b := range byte(0x20) {
		all = append(all, api.State{At: api.InSystem, Text: string([]byte{b})}, api.State{At: api.InSystem, Text: "a" + string([]byte{b}) + "b"})
	}
	return all
}

// P4.1

func TestCheck(t *testing.T) {
	for _, s := range rightStates() {
		if !Check(s) {
			t.Errorf("Check(%#v) is false", s)
		}
	}
	for _, s := range wrongStates() {
		if Check(s) {
			t.Errorf("Check(%#v) is true", s)
		}
	}
}

// Each state has some of the fields; all others must be zero.
func TestCheckWhatAStateHasNot(t *testing.T) {
	fields := []struct {
		name string
		in   []int
		set  func(*api.State)
	}{
		{"Left", []int{api.Ground}, func(s *api.State) { s.Left = "\xe6" }},
		{"Middle", []int{api.InMiddle, api.InCommand}, func(s *api.State) { s.Middle = "(" }},
		{"Params", []int{api.InCommand}, func(s *api.State) { s.Params = []int{0} }},
		{"Mark", []int{api.InCommand}, func(s *api.State) { s.Mark = '?' }},
		{"Text", []int{api.InSystem}, func(s *api.State) { s.Text = "t" }},
		{"Late", []int{api.InSystem}, func(s *api.State) { s.Late = true }},
	}
	for at := api.Ground; at <= api.InSkip; at++ {
		for _, f := range fields {
			s := api.State{At: at}
			if at == api.InMiddle {
				s.Middle = " "
			}
			f.set(&s)
			if got, want := Check(s), slices.Contains(f.in, at); got != want {
				t.Errorf("Check of At %d with %s is %v, want %v", at, f.name, got, want)
			}
		}
	}
}

func TestCheckEveryByte(t *testing.T) {
	for n := range 256 {
		b := byte(n)
		one := string([]byte{b})
		middle := b >= 0x20 && b <= 0x2f
		for _, c := range []struct {
			s    api.State
			want bool
		}{
			{api.State{At: api.InMiddle, Middle: one}, middle},
			{api.State{At: api.InMiddle, Middle: "(" + one}, middle},
			{api.State{At: api.InCommand, Middle: one}, middle},
			{api.State{At: api.InCommand, Mark: b}, b == 0 || strings.ContainsRune("<=>?", rune(b))},
			{api.State{At: api.InSystem, Text: one}, b >= 0x20},
			{api.State{Left: one}, b >= 0xc2 && b <= 0xf4},
		} {
			if got := Check(c.s); got != c.want {
				t.Errorf("Check(%#v) is %v, want %v", c.s, got, c.want)
			}
		}
	}
}

// P4.2

// step: where a reader is, and what it told, after one byte.
type step func(s api.State, b byte) (api.State, events)

// rule: what the bytes from first to last do.
type rule struct {
	first, last byte
	do          step
}

func goTo(at int) step {
	return func(api.State, byte) (api.State, events) { return api.State{At: at}, nil }
}

func stay(s api.State, _ byte) (api.State, events) { return s, nil }

func tell(s api.State, b byte) (api.State, events) { return s, list(control(b)) }

// loses: bytes that wait are told as wrong ones ahead of what is done.
func loses(do step) step {
	return func(s api.State, b byte) (api.State, events) {
		told := slices.Repeat(list(wrongByte), len(s.Left))
		s.Left = ""
		s, more := do(s, b)
		return s, append(told, more...)
	}
}

// everywhere but in a System.
func everywhere() []rule {
	return []rule{
		{0x00, 0x17, loses(tell)}, {0x18, 0x18, loses(goTo(api.Ground))}, {0x19, 0x19, loses(tell)}, {0x1a, 0x1a, loses(goTo(api.Ground))},
		{0x1b, 0x1b, loses(goTo(api.InEscape))}, {0x1c, 0x1f, loses(tell)}, {0x7f, 0x7f, loses(stay)},
	}
}

func ends(e func(s api.State, b byte) api.Event) step {
	return func(s api.State, b byte) (api.State, events) { return api.State{}, list(e(s, b)) }
}

// addMiddle, if there is room for it; else the reader is at full.
func addMiddle(full int) step {
	return func(s api.State, b byte) (api.State, events) {
		if len(s.Middle) == 2 {
			return api.State{At: full}, nil
		}
		s.Middle += string([]byte{b})
		return s, nil
	}
}

// runes told of bytes in Ground, by Go's own reading of UTF-8.
func runes(s api.State, b byte) (api.State, events) {
	bytes := append([]byte(s.Left), b)
	var told events
	for utf8.FullRune(bytes) {
		r, n := utf8.DecodeRune(bytes)
		told = append(told, printed(r))
		bytes = bytes[n:]
	}
	return api.State{Left: string(bytes)}, told
}

func digit(s api.State, b byte) (api.State, events) {
	if s.Middle != "" {
		return api.State{At: api.InSkip}, nil
	}
	params := slices.Clone(s.Params)
	if len(params) == 0 {
		params = []int{0}
	}
	last := len(params) - 1
	if params[last] == -1 {
		params[last] = 0
	}
	params[last] = params[last]*10 + int(b-'0')
	if params[last] > api.MaxParam {
		params[last] = api.MaxParam
	}
	s.Params = params
	return s, nil
}

func semicolon(s api.State, _ byte) (api.State, events) {
	if s.Middle != "" || len(s.Params) == 16 {
		return api.State{At: api.InSkip}, nil
	}
	if len(s.Params) == 0 {
		s.Params = []int{-1, -1}
	} else {
		s.Params = append(slices.Clone(s.Params), -1)
	}
	return s, nil
}

func marks(s api.State, b byte) (api.State, events) {
	if s.Middle != "" || s.Mark != 0 || len(s.Params) > 0 {
		return api.State{At: api.InSkip}, nil
	}
	s.Mark = b
	return s, nil
}

func addText(s api.State, b byte) (api.State, events) {
	if len(s.Text) < 64 {
		s.Text += string([]byte{b})
	}
	return s, nil
}

func late(s api.State, _ byte) (api.State, events) {
	s.Late = true
	return s, nil
}

// rules of a reader at s, each byte in one of them.
func rules(s api.State) []rule {
	if s.Late {
		end := ends(func(s api.State, _ byte) api.Event { return system(s.Text) })
		again := func(_ api.State, b byte) (api.State, events) { return expect(api.State{At: api.InEscape}, b) }
		return []rule{{0, '\\' - 1, again}, {'\\', '\\', end}, {'\\' + 1, 0xff, again}}
	}
	escape := ends(func(s api.State, b byte) api.Event { return escaped(s.Middle, b) })
	switch s.At {
	case api.Ground:
		return append(everywhere(), rule{0x20, 0x7e, runes}, rule{0x80, 0xff, runes})
	case api.InEscape:
		into := func(_ api.State, b byte) (api.State, events) {
			return api.State{At: api.InMiddle, Middle: string([]byte{b})}, nil
		}
		return append(everywhere(), rule{0x20, 0x2f, into}, rule{0x30, '[' - 1, escape}, rule{'[', '[', goTo(api.InCommand)}, rule{'\\', '\\', escape},
			rule{']', ']', goTo(api.InSystem)}, rule{']' + 1, 0x7e, escape}, rule{0x80, 0xff, goTo(api.Ground)})
	case api.InMiddle:
		return append(everywhere(), rule{0x20, 0x2f, addMiddle(api.Ground)}, rule{0x30, 0x7e, escape}, rule{0x80, 0xff, goTo(api.Ground)})
	case api.InCommand:
		end := ends(func(s api.State, b byte) api.Event { return command(s.Mark, s.Params, s.Middle, b) })
		return append(everywhere(), rule{0x20, 0x2f, addMiddle(api.InSkip)}, rule{'0', '9', digit}, rule{':', ':', goTo(api.InSkip)}, rule{';', ';', semicolon},
			rule{'<', '?', marks}, rule{0x40, 0x7e, end}, rule{0x80, 0xff, goTo(api.Ground)})
	case api.InSystem:
		end := ends(func(s api.State, _ byte) api.Event { return system(s.Text) })
		return []rule{{0, 6, stay}, {7, 7, end}, {8, 0x17, stay}, {0x18, 0x18, goTo(api.Ground)}, {0x19, 0x19, stay}, {0x1a, 0x1a, goTo(api.Ground)},
			{0x1b, 0x1b, late}, {0x1c, 0x1f, stay}, {0x20, 0xff, addText}}
	}
	return append(everywhere(), rule{0x20, 0x3f, stay}, rule{0x40, 0x7e, goTo(api.Ground)}, rule{0x80, 0xff, goTo(api.Ground)})
}

// expect: what one byte does by the rules.
func expect(s api.State, b byte) (api.State, events) {
	var do []step
	for _, r := range rules(s) {
		if b >= r.first && b <= r.last {
			do = append(do, r.do)
		}
	}
	if len(do) != 1 {
		panic(fmt.Sprintf("%d rules of byte %x at %#v", len(do), b, s))
	}
	return do[0](s, b)
}

func TestFeedEveryByteInEveryState(t *testing.T) {
	for _, s := range rightStates() {
		for n := range 256 {
			b := byte(n)
			wantState, wantTold := expect(s, b)
			state, told, e := Feed(s, string([]byte{b}))
			if e != api.OK || !sameState(state, wantState) || !sameEvents(told, wantTold) {
				t.Errorf("Feed(%#v, %q) = %#v, %#v, %v; want %#v, %#v", s, string([]byte{b}), state, told, e, wantState, wantTold)
			}
			if !Check(state) {
				t.Errorf("Feed(%#v, %q) = %#v, which is no state", s, string([]byte{b}), state)
			}
		}
	}
}

func TestFeedNothing(t *testing.T) {
	for _, s := range rightStates() {
		state, told, e := Feed(s, "")
		if e != api.OK || len(told) != 0 || !sameState(state, s) {
			t.Errorf("Feed(%#v, nothing) = %#v, %v, %v", s, state, told, e)
		}
	}
}

func TestFeedFromGround(t *testing.T) {
	full := strings.Repeat("x", api.MaxString)
	for _, c := range []struct {
		in    string
		told  events
		state api.State
	}{
		{"hi", list(printed('h'), printed('i')), api.State{}},
		{" ~", list(printed(' '), printed('~')), api.State{}},
		{"\x1b[2;3Hx", list(command(0, []int{2, 3}, "", 'H'), printed('x')), api.State{}},
		// runes
		{"日\u00e9\U0001f600", list(printed('日'), printed(0xe9), printed(0x1f600)), api.State{}},
		{"\u0301\u200b\u0080\ufffd", list(printed(0x301), printed(0x200b), printed(0x80), printed(0xfffd)), api.State{}},
		{"\xe6\x97", nil, api.State{Left: "\xe6\x97"}},
		{"\xe6\x97a", list(wrongByte, wrongByte, printed('a')), api.State{}},
		{"\xf0\x9f\xf0", list(wrongByte, wrongByte), api.State{Left: "\xf0"}},
		{"\xf0\x9f\xe6\x97\xa5", list(wrongByte, wrongByte, printed('日')), api.State{}},
		{"\xe0\x80\x80", list(wrongByte, wrongByte, wrongByte), api.State{}},
		{"\xed\xa0\x80", list(wrongByte, wrongByte, wrongByte), api.State{}},
		{"\xff\x80\xc1", list(wrongByte, wrongByte, wrongByte), api.State{}},
		// bytes that wait, and a control
		{"\xf0\x9f\x98\n", list(wrongByte, wrongByte, wrongByte, control('\n')), api.State{}},
		{"\xf0\x9f\x98\x7f\x80", list(wrongByte, wrongByte, wrongByte, wrongByte), api.State{}},
		{"\xe6\x1b", list(wrongByte), api.State{At: api.InEscape}},
		{"\xe6\x18a", list(wrongByte, printed('a')), api.State{}},
		{"\xe6\x97\x1a", list(wrongByte, wrongByte), api.State{}},
		{"\xe6\x97\x1b[m", list(wrongByte, wrongByte, command(0, nil, "", 'm')), api.State{}},
		// controls
		{"\x00\a\b\t\n\r\x1f\x7f", list(control(0), control(7), control(8), control(9), control(10), control(13), control(31)), api.State{}},
		{"\x18\x1a", nil, api.State{}},
		// ESC
		{"\x1b7\x1bc\x1b0\x1b~", list(escaped("", '7'), escaped("", 'c'), escaped("", '0'), escaped("", '~')), api.State{}},
		{"\x1b\\\x1bP", list(escaped("", '\\'), escaped("", 'P')), api.State{}},
		{"\x1b\x1b\x1b7", list(escaped("", '7')), api.State{}},
		{"\x1b\n7", list(control('\n'), escaped("", '7')), api.State{}},
		{"\x1b\x7f7", list(escaped("", '7')), api.State{}},
		{"\x1b\x187", list(printed('7')), api.State{}},
		{"\x1b日", list(wrongByte, wrongByte), api.State{}},
		{"\x1b(B\x1b#8\x1b%/G", list(escaped("(", 'B'), escaped("#", '8'), escaped("%/", 'G')), api.State{}},
		{"\x1b([", list(escaped("(", '[')), api.State{}},
		{"\x1b(]", list(escaped("(", ']')), api.State{}},
		{"\x1b(((B", list(printed('B')), api.State{}},
		{"\x1b(\tB", list(control('\t'), escaped("(", 'B')), api.State{}},
		{"\x1b(\x7fB", list(escaped("(", 'B')), api.State{}},
		{"\x1b(\xe6B", list(printed('B')), api.State{}},
		{"\x1b(\x1b)B", list(escaped(")", 'B')), api.State{}},
		// numbers
		{"\x1b[m\x1b[0m\x1b[00m", list(command(0, nil, "", 'm'), command(0, []int{0}, "", 'm'), command(0, []int{0}, "", 'm')), api.State{}},
		{"\x1b[;m\x1b[1;m\x1b[;1m", list(command(0, []int{-1, -1}, "", 'm'), command(0, []int{1, -1}, "", 'm'), command(0, []int{-1, 1}, "", 'm')), api.State{}},
		{"\x1b[9999m\x1b[10000m\x1b[99999999999999999999m", list(command(0, []int{9999}, "", 'm'), command(0, []int{9999}, "", 'm'), command(0, []int{9999}, "", 'm')), api.State{}},
		{"\x1b[0012;007H", list(command(0, []int{12, 7}, "", 'H')), api.State{}},
		{"\x1b[" + strings.Repeat(";", 15) + "m", list(command(0, repeated(-1, 16), "", 'm')), api.State{}},
		{"\x1b[" + strings.Repeat("1;", 15) + "1m", list(command(0, repeated(1, 16), "", 'm')), api.State{}},
		{"\x1b[" + strings.Repeat(";", 16), nil, api.State{At: api.InSkip}},
		{"\x1b[" + strings.Repeat("1;", 16) + "1mx", list(printed('x')), api.State{}},
		{"\x1b[" + strings.Repeat("1;", 15), nil, api.State{At: api.InCommand, Params: append(repeated(1, 15), -1)}},
		// Mark and Middle
		{"\x1b[?h\x1b[<=h", list(command('?', nil, "", 'h')), api.State{}},
		{"\x1b[>0;1c\x1b[=c\x1b[<c", list(command('>', []int{0, 1}, "", 'c'), command('=', nil, "", 'c'), command('<', nil, "", 'c')), api.State{}},
		{"\x1b[??", nil, api.State{At: api.InSkip}},
		{"\x1b[1?", nil, api.State{At: api.InSkip}},
		{"\x1b[ ?", nil, api.State{At: api.InSkip}},
		{"\x1b[!p\x1b[1 q\x1b[?1;2$y\x1b[ !~", list(command(0, nil, "!", 'p'), command(0, []int{1}, " ", 'q'), command('?', []int{1, 2}, "$", 'y'), command(0, nil, " !", '~')), api.State{}},
		{"\x1b[   ", nil, api.State{At: api.InSkip}},
		{"\x1b[ 1", nil, api.State{At: api.InSkip}},
		{"\x1b[ ;", nil, api.State{At: api.InSkip}},
		{"\x1b[1:2mx", list(printed('x')), api.State{}},
		{"\x1b[[\x1b[@\x1b[~", list(command(0, nil, "", '['), command(0, nil, "", '@'), command(0, nil, "", '~')), api.State{}},
		// what comes between
		{"\x1b[1\n2\x7f3m", list(control('\n'), command(0, []int{123}, "", 'm')), api.State{}},
		{"\x1b[1\x1b[2m", list(command(0, []int{2}, "", 'm')), api.State{}},
		{"\x1b[1\x18m", list(printed('m')), api.State{}},
		{"\x1b[1\x1am", list(printed('m')), api.State{}},
		{"\x1b[1\x80m", list(printed('m')), api.State{}},
		{"\x1b[1:\r\x7f ;?2", list(control('\r')), api.State{At: api.InSkip}},
		{"\x1b[:\x80a", list(printed('a')), api.State{}},
		{"\x1b[:@a", list(printed('a')), api.State{}},
		{"\x1b[:\x18a", list(printed('a')), api.State{}},
		{"\x1b[:\x1ba", list(escaped("", 'a')), api.State{}},
		// texts
		{"\x1b]\a\x1b]0;t\a\x1b]2;日\x1b\\x", list(system(""), system("0;t"), system("2;日"), printed('x')), api.State{}},
		{"\x1b]a\n\x00\x1fb\x7f\a", list(system("ab\x7f")), api.State{}},
		{"\x1b]\xff\xe6\a", list(system("\xff\xe6")), api.State{}},
		{"\x1b]a\x18b", list(printed('b')), api.State{}},
		{"\x1b]a\x1ab", list(printed('b')), api.State{}},
		{"\x1b]a\x1b", nil, api.State{At: api.InSystem, Text: "a", Late: true}},
		{"\x1b]a\x1b7", list(escaped("", '7')), api.State{}},
		{"\x1b]a\x1b\x1b\\", list(escaped("", '\\')), api.State{}},
		{"\x1b]a\x1b\a", list(control(7)), api.State{At: api.InEscape}},
		{"\x1b]a\x1b\x18b", list(printed('b')), api.State{}},
		{"\x1b]a\x1b\x7f", nil, api.State{At: api.InEscape}},
		{"\x1b]a\x1b\x80", nil, api.State{}},
		{"\x1b]a\x1b[1m", list(command(0, []int{1}, "", 'm')), api.State{}},
		{"\x1b]a\x1b]b\a", list(system("b")), api.State{}},
		{"\x1b]a\x1b(B", list(escaped("(", 'B')), api.State{}},
		{"\x1b]" + full + "\a", list(system(full)), api.State{}},
		{"\x1b]" + full + "yz", nil, api.State{At: api.InSystem, Text: full}},
		{"\x1b]" + full + "yz\x1b\\", list(system(full)), api.State{}},
	} {
		state, told, e := Feed(api.State{}, c.in)
		if e != api.OK || !sameState(state, c.state) || !sameEvents(told, c.told) {
			t.Errorf("Feed of %q: %#v, %#v, %v; want %#v, %#v", c.in, state, told, e, c.state, c.told)
		}
	}
}

func TestFeedErrors(t *testing.T) {
	much, tooMuch := strings.Repeat("a", api.MaxText), strings.Repeat("a", api.MaxText+1)
	failed := func(s api.State, b string, want api.Errno) {
		state, told, e := Feed(s, b)
		if e != want || len(told) != 0 || !sameState(state, api.State{}) {
			t.Errorf("Feed(%#v, %d bytes) = %#v, %d events, %v; want error %v alone", s, len(b), state, len(told), e, want)
		}
	}
	for _, s := range wrongStates() {
		failed(s, "", api.ErrForm)
		failed(s, "a", api.ErrForm)
		failed(s, tooMuch, api.ErrForm)
	}
	for _, s := range rightStates() {
		failed(s, tooMuch, api.ErrMany)
		if _, _, e := Feed(s, much); e != api.OK {
			t.Errorf("Feed(%#v, %d bytes) = %v", s, len(much), e)
		}
	}
	if _, told, _ := Feed(api.State{}, much); len(told) != api.MaxText {
		t.Errorf("%d events of %d bytes", len(told), len(much))
	}
}

func TestFeedOnlyReads(t *testing.T) {
	for _, b := range []string{"", "5", ";5", ";;;m", "\n", "\x1b", "m\x1b[1;2;3;4;5;6m"} {
		room := []int{1, 2, 77, 78, 79}
		was := slices.Clone(room)
		state, told, _ := Feed(api.State{At: api.InCommand, Params: room[:2]}, b)
		if !slices.Equal(room, was) {
			t.Errorf("Feed of %q changed what it was handed: %v", b, room)
		}
		spoil(state.Params)
		for _, e := range told {
			spoil(e.Params)
		}
		if !slices.Equal(room, was) {
			t.Errorf("Feed of %q answers what it was handed: %v", b, room)
		}
	}
}

// spoil a list and the room behind it.
func spoil(l []int) {
	l = l[:cap(l)]
	for i := range l {
		l[i] = -9
	}
}

func TestFeedSharesNothing(t *testing.T) {
	in := "\x1b[1;2;3m\x1b[4;5;6H\x1b[;7r\x1b[8;9"
	want := [][]int{{1, 2, 3}, {4, 5, 6}, {-1, 7}, {8, 9}}
	for i := range want {
		state, told, _ := Feed(api.State{}, in)
		lists := [][]int{told[0].Params, told[1].Params, told[2].Params, state.Params}
		spoil(lists[i])
		for j := range want {
			if j != i && !slices.Equal(lists[j], want[j]) {
				t.Errorf("list %d changes with list %d: %v", j, i, lists[j])
			}
		}
	}
}

// P4.3

func TestWrite(t *testing.T) {
	for _, c := range []struct {
		l    events
		want string
	}{
		{nil, ""},
		{events{}, ""},
		{list(printed('a'), printed('日'), printed(0xfffd), printed(0x10ffff)), "a日\ufffd\U0010ffff"},
		{list(control(0), control(7), control(10), control(31)), "\x00\a\n\x1f"},
		{list(escaped("", 'c'), escaped("(", 'B'), escaped(" /", '~')), "\x1bc\x1b(B\x1b /~"},
		{list(escaped("(", '['), escaped("", '\\')), "\x1b([\x1b\\"},
		{list(command(0, nil, "", 'm'), command(0, []int{}, "", 'm')), "\x1b[m\x1b[m"},
		{list(command(0, []int{0}, "", 'm'), command(0, []int{1, 41}, "", 'm')), "\x1b[0m\x1b[1;41m"},
		{list(command('?', []int{1, 25}, "", 'h'), command('>', nil, "", 'c')), "\x1b[?1;25h\x1b[>c"},
		{list(command(0, []int{-1, -1}, "", 'H'), command(0, []int{3, -1}, "", 'H'), command(0, []int{-1, 3}, "", 'H'), command(0, []int{1, -1, 2}, "", 'H')), "\x1b[;H\x1b[3;H\x1b[;3H\x1b[1;;2H"},
		{list(command('<', []int{9999}, " !", '~')), "\x1b[<9999 !~"},
		{list(command(0, repeated(-1, 16), "", 'm')), "\x1b[" + strings.Repeat(";", 15) + "m"},
		{list(system(""), system("0;t"), system("\xff\x7f ")), "\x1b]\a\x1b]0;t\a\x1b]\xff\x7f \a"},
		{list(system(strings.Repeat("x", api.MaxString))), "\x1b]" + strings.Repeat("x", api.MaxString) + "\a"},
	} {
		got, e := Write(c.l)
		if e != api.OK || got != c.want {
			t.Errorf("Write(%#v) = %q, %v; want %q", c.l, got, e, c.want)
		}
	}
}

func writes(t *testing.T, e api.Event, want bool) {
	t.Helper()
	got, err := Write(list(e))
	if want && (err != api.OK || got == "") {
		t.Errorf("Write(%#v) = %q, %v", e, got, err)
	}
	if !want && (err != api.ErrForm || got != "") {
		t.Errorf("Write(%#v) = %q, %v; want ErrForm alone", e, got, err)
	}
}

func TestWriteEveryRune(t *testing.T) {
	for r := rune(-2); r <= utf8.MaxRune+2; r++ {
		writes(t, printed(r), utf8.ValidRune(r) && r >= 0x20 && r != 0x7f)
	}
	writes(t, printed(math.MinInt32), false)
	writes(t, printed(math.MaxInt32), false)
}

func TestWriteEveryControl(t *testing.T) {
	for r := rune(-600); r <= 1200; r++ {
		told := r >= 0 && r < 0x20 && r != 0x18 && r != 0x1a && r != 0x1b
		writes(t, api.Event{Kind: api.Control, R: r}, told)
	}
	writes(t, api.Event{Kind: api.Control, R: math.MinInt32 + 10}, false)
	writes(t, api.Event{Kind: api.Control, R: math.MaxInt32}, false)
}

func TestWriteEveryByte(t *testing.T) {
	for n := range 256 {
		b := byte(n)
		one := string([]byte{b})
		middle := b >= 0x20 && b <= 0x2f
		mark := strings.ContainsRune("<=>?", rune(b)) && b < 0x80
		writes(t, escaped("", b), b >= 0x30 && b <= 0x7e && b != '[' && b != ']')
		writes(t, escaped("(", b), b >= 0x30 && b <= 0x7e)
		writes(t, escaped(one, 'B'), middle)
		writes(t, escaped("("+one, 'B'), middle)
		writes(t, escaped(one+"(", 'B'), middle)
		writes(t, escaped("(("+one, 'B'), false)
		writes(t, command(0, nil, "", b), b >= 0x40 && b <= 0x7e)
		writes(t, command('?', []int{1}, " ", b), b >= 0x40 && b <= 0x7e)
		writes(t, command(b, nil, "", 'h'), mark || b == 0)
		writes(t, command(b, []int{1}, "", 'h'), mark || b == 0)
		writes(t, command(0, nil, one, 'h'), middle)
		writes(t, command('?', []int{2}, one+"!", 'h'), middle)
		writes(t, command(0, nil, "!!"+one, 'h'), false)
		writes(t, system(one), b >= 0x20)
		writes(t, system("a"+one+"b"), b >= 0x20)
	}
}

func TestWriteNumbers(t *testing.T) {
	for _, c := range []struct {
		params []int
		want   bool
	}{
		{nil, true}, {[]int{}, true}, {[]int{0}, true}, {[]int{9999}, true}, {[]int{-1, -1}, true}, {repeated(-1, 16), true}, {repeated(9999, 16), true},
		{[]int{-1}, false}, // no digits and no ; are no number at all
		{[]int{-2}, false}, {[]int{1, -2}, false}, {[]int{-2, 1}, false}, {[]int{10000}, false}, {[]int{1, 10000, 1}, false},
		{[]int{math.MinInt}, false}, {[]int{math.MaxInt}, false},
		{repeated(-1, 17), false}, {repeated(1, 17), false}, {repeated(1, 100000), false},
	} {
		for _, final := range []byte{'m', '@', '~'} {
			writes(t, command(0, c.params, "", final), c.want)
			writes(t, command('?', c.params, "", final), c.want)
			writes(t, command(0, c.params, "$", final), c.want)
		}
	}
}

func TestWriteWrongEvents(t *testing.T) {
	for _, kind := range []int{math.MinInt, -1, 0, 6, 7, math.MaxInt} {
		writes(t, api.Event{Kind: kind}, false)
		writes(t, api.Event{Kind: kind, R: 'a', Final: 'm', Text: "a"}, false)
	}
	writes(t, system(strings.Repeat("x", api.MaxString+1)), false)
	writes(t, system(strings.Repeat("x", 2*api.MaxText)), false)
	writes(t, escaped(strings.Repeat("(", 2*api.MaxText), 'B'), false)
	writes(t, command(0, nil, strings.Repeat("(", 2*api.MaxText), 'B'), false)
	writes(t, system("a\x1b\\"), false)
	writes(t, system("a\x1b]a"), false)
	writes(t, escaped("(B\x1b(", 'B'), false)
}

// What an event of a kind doesn't have is never told with it.
func TestWriteWhatAnEventHasNot(t *testing.T) {
	fields := []struct {
		in  []int
		set func(*api.Event)
	}{
		{[]int{api.Print, api.Control}, func(e *api.Event) { e.R = 10 }},
		{[]int{api.Escape, api.Command}, func(e *api.Event) { e.Final = 'A' }},
		{[]int{api.Command}, func(e *api.Event) { e.Mark = '<' }},
		{[]int{api.Escape, api.Command}, func(e *api.Event) { e.Middle = "!" }},
		{[]int{api.Command}, func(e *api.Event) { e.Params = []int{3} }},
		{[]int{api.System}, func(e *api.Event) { e.Text = "x" }},
	}
	for _, e := range list(printed('a'), control(9), escaped("", 'c'), command(0, nil, "", 'm'), system("t")) {
		writes(t, e, true)
		for _, f := range fields {
			if !slices.Contains(f.in, e.Kind) {
				more := e
				f.set(&more)
				writes(t, more, false)
			}
		}
	}
}

func TestWriteMany(t *testing.T) {
	a, wrong := printed('a'), control(27)
	much := slices.Repeat(list(a), api.MaxText)
	long := append(slices.Clone(much[3:]), printed('日'))
	for _, c := range []struct {
		name  string
		l     events
		want  api.Errno
		bytes int
	}{
		{"as many as may be", much, api.OK, api.MaxText},
		{"one more", append(slices.Clone(much), a), api.ErrMany, 0},
		{"bytes count, not runes", long, api.OK, api.MaxText},
		{"a rune that has no room", append(slices.Clone(much[2:]), printed('日')), api.ErrMany, 0},
		{"a command that has no room", append(slices.Clone(much[2:]), command(0, nil, "", 'm')), api.ErrMany, 0},
		{"a command that has just room", append(slices.Clone(much[3:]), command(0, nil, "", 'm')), api.OK, api.MaxText},
		{"many, then a wrong one", append(slices.Clone(much), a, wrong), api.ErrMany, 0},
		{"a wrong one where there is no room", append(slices.Clone(much), wrong, a), api.ErrForm, 0},
		{"a wrong one, then many", append(list(wrong), append(much, a)...), api.ErrForm, 0},
		{"a wrong one last", list(a, a, wrong), api.ErrForm, 0},
	} {
		got, e := Write(c.l)
		if e != c.want || len(got) != c.bytes {
			t.Errorf("%s: %d bytes, %v; want %d, %v", c.name, len(got), e, c.bytes, c.want)
		}
	}
}

func TestWriteOnlyReads(t *testing.T) {
	room := []int{1, -1, 77, 78}
	l := list(command(0, room[:2], "", 'm'), printed('a'))
	if got, e := Write(l[:1]); got != "\x1b[1;m" || e != api.OK {
		t.Errorf("Write: %q, %v", got, e)
	}
	if !slices.Equal(room, []int{1, -1, 77, 78}) || !sameEvents(l, list(command(0, []int{1, -1}, "", 'm'), printed('a'))) {
		t.Errorf("Write changed what it was handed: %v, %v", room, l)
	}
}

func TestSame(t *testing.T) {
	full := api.Event{Kind: 4, R: 5, Final: 'm', Mark: '?', Middle: "!", Params: []int{1, 2}, Text: "t"}
	others := list(
		api.Event{},
		api.Event{Kind: 3, R: 5, Final: 'm', Mark: '?', Middle: "!", Params: []int{1, 2}, Text: "t"},
		api.Event{Kind: 4, R: 6, Final: 'm', Mark: '?', Middle: "!", Params: []int{1, 2}, Text: "t"},
		api.Event{Kind: 4, R: 5, Final: 'n', Mark: '?', Middle: "!", Params: []int{1, 2}, Text: "t"},
		api.Event{Kind: 4, R: 5, Final: 'm', Mark: '>', Middle: "!", Params: []int{1, 2}, Text: "t"},
		api.Event{Kind: 4, R: 5, Final: 'm', Mark: '?', Middle: "", Params: []int{1, 2}, Text: "t"},
		api.Event{Kind: 4, R: 5, Final: 'm', Mark: '?', Middle: "!", Params: []int{1, 3}, Text: "t"},
		api.Event{Kind: 4, R: 5, Final: 'm', Mark: '?', Middle: "!", Params: []int{1}, Text: "t"},
		api.Event{Kind: 4, R: 5, Final: 'm', Mark: '?', Middle: "!", Params: []int{1, 2, 0}, Text: "t"},
		api.Event{Kind: 4, R: 5, Final: 'm', Mark: '?', Middle: "!", Params: nil, Text: "t"},
		api.Event{Kind: 4, R: 5, Final: 'm', Mark: '?', Middle: "!", Params: []int{1, 2}, Text: "T"},
	)
	all := append(others, full)
	for i, a := range all {
		for j, b := range all {
			b.Params = slices.Clone(b.Params)
			if got := Same(a, b); got != (i == j) {
				t.Errorf("Same(%#v, %#v) is %v", a, b, got)
			}
		}
	}
	if !Same(command(0, nil, "", 'm'), command(0, []int{}, "", 'm')) {
		t.Error("a list that is nil and one that is empty are not the same")
	}
}

// P4.4

// pieces of which streams are made: whole ones, beginnings, and wrong ones.
var pieces = []string{
	"a", " ", "~", "日", "\u0301", "\U0001f600", "\xe6", "\xe6\x97", "\xa5", "\xf0\x9f", "\xff", "\xe0\x80", "\n", "\a", "\x00", "\x7f", "\x18", "\x1a",
	"\x1b", "\x1b7", "\x1b(", "\x1b(B", "(", "((", "\x1b[", "\x1b[m", "\x1b[?25h", "\x1b[1;2", ";", "7", "99999", "?", ":", "!", "@", "m", "\x80",
	"\x1b[1;2;3;4;5;6;7;8;9;10;11;12;13;14;15;16", "\x1b]", "\x1b]0;t\a", "\x1b]2;日", "\x1b\\", "\\", "[", "]", "a rather long text, more than a title",
}

// streams: every pair of pieces, and some that are made of many by a fixed rule.
func streams() []string {
	var all []string
	for _, a := range pieces {
		for _, b := range pieces {
			all = append(all, a+b)
		}
	}
	seed := uint32(1)
	for range 400 {
		var s strings.Builder
		for range 12 {
			seed = seed*1664525 + 1013904223
			s.WriteString(pieces[int(seed>>8)%len(pieces)])
		}
		all = append(all, s.String())
	}
	return all
}

// feed pieces one after the other.
func feed(t *testing.T, s api.State, in ...string) (api.State, events) {
	t.Helper()
	var all events
	for _, b := range in {
		next, told, e := Feed(s, b)
		if e != api.OK || !Check(next) {
			t.Fatalf("Feed(%#v, %q) = %#v, %v", s, b, next, e)
		}
		s = next
		all = append(all, told...)
	}
	return s, all
}

func TestCutsMakeNoDifference(t *testing.T) {
	starts := []api.State{{}, {Left: "\xf0\x9f"}, {At: api.InEscape}, {At: api.InMiddle, Middle: "("}, {At: api.InCommand, Mark: '?', Params: []int{1, -1}},
		{At: api.InSystem, Text: "t"}, {At: api.InSystem, Text: "t", Late: true}, {At: api.InSkip}}
	for i, b := range streams() {
		for _, start := range starts {
			state, told := feed(t, start, b)
			same := func(in ...string) {
				cutState, cutTold := feed(t, start, in...)
				if !sameState(state, cutState) || !sameEvents(told, cutTold) {
					t.Fatalf("from %#v: %q as %q: %#v, %#v, want %#v, %#v", start, b, in, cutState, cutTold, state, told)
				}
			}
			for cut := range len(b) + 1 {
				same(b[:cut], b[cut:])
				if i%7 == 0 {
					same(b[:cut/2], b[cut/2:cut], "", b[cut:])
				}
			}
			same(strings.Split(b, "")...)
			same(byBytes(b)...)
		}
	}
}

func byBytes(b string) []string {
	all := make([]string, len(b))
	for i := range all {
		all[i] = b[i : i+1]
	}
	return all
}

// Many bytes at once are what the rules say of them one by one.
func TestStreamsByTheRules(t *testing.T) {
	for _, b := range streams() {
		state, told := feed(t, api.State{}, b)
		var want api.State
		var wantTold events
		for _, c := range []byte(b) {
			next, more := expect(want, c)
			want = next
			wantTold = append(wantTold, more...)
		}
		if !sameState(state, want) || !sameEvents(told, wantTold) {
			t.Fatalf("Feed of %q: %#v, %#v; want %#v, %#v", b, state, told, want, wantTold)
		}
	}
}

func TestWhatIsWrittenIsReadAgain(t *testing.T) {
	for _, b := range streams() {
		_, told := feed(t, api.State{}, b)
		written, e := Write(told)
		if e != api.OK {
			t.Fatalf("Write(%#v), told of %q: %v", told, b, e)
		}
		state, again := feed(t, api.State{}, written)
		if !sameState(state, api.State{}) || !sameEvents(told, again) {
			t.Fatalf("%#v, written as %q, is read as %#v, and the reader is at %#v", told, written, again, state)
		}
		if twice, _ := Write(again); twice != written {
			t.Fatalf("%#v is written as %q, then as %q", told, written, twice)
		}
	}
}
