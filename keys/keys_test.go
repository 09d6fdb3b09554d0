package keys

import (
	"math"
	"testing"
	"unicode/utf8"

	"trellis/api"
	"trellis/text"
)

// few: runes of each width, the edges of what may be held with them, and what is no rune.
func few() []rune {
	l := []rune{
		math.MinInt32, -1, 0x80, 0x9F, 0xA0, 'é', 0x300, 0x301, 0x36F, 0x370, 0x10FF, 0x1100, 0x200B,
		'日', '本', 0xD7FF, 0xD800, 0xDFFF, 0xE000, 0xFE0F, 0xFEFF, utf8.RuneError, 0xFFFF, 0x1F600, 0x20000, 0x3FFFD, 0x3FFFE,
		utf8.MaxRune, utf8.MaxRune + 1, math.MaxInt32,
	}
	for r := range rune(0x80) {
		l = append(l, r)
	}
	return l
}

// every key that can be told, of Runes those with one of these.
func every(runes []rune) []api.Key {
	var l []api.Key
	for _, r := range runes {
		if text.Width(r) == 0 {
			continue
		}
		l = append(l, api.Key{Kind: api.Rune, R: r})
		if r != '[' && r != 'O' {
			l = append(l, api.Key{Kind: api.Rune, R: r, Held: api.Alt})
		}
	}
	for _, r := range "abcdefgjklnopqrstuvwxyz" {
		l = append(l, api.Key{Kind: api.Rune, R: r, Held: api.Ctrl}, api.Key{Kind: api.Rune, R: r, Held: api.Ctrl | api.Alt})
	}
	l = append(l,
		api.Key{Kind: api.Enter}, api.Key{Kind: api.Enter, Held: api.Alt},
		api.Key{Kind: api.Back}, api.Key{Kind: api.Back, Held: api.Alt},
		api.Key{Kind: api.Tab}, api.Key{Kind: api.Tab, Held: api.Shift},
		api.Key{Kind: api.Esc})
	for held := range 8 {
		for _, kind := range []int{api.Up, api.Down, api.Right, api.Left, api.Home, api.End, api.PageUp, api.PageDown, api.Delete} {
			l = append(l, api.Key{Kind: kind, Held: held})
		}
		for n := 1; n <= 12; n++ {
			l = append(l, api.Key{Kind: api.Function, N: n, Held: held})
		}
	}
	return l
}

// setOf keys.
func setOf(l []api.Key) map[api.Key]bool {
	set := map[api.Key]bool{}
	for _, k := range l {
		set[k] = true
	}
	return set
}

// wrong keys: none of them can be told.
func wrong() []api.Key {
	return []api.Key{
		{},
		{Kind: -1}, {Kind: 16}, {Kind: math.MinInt}, {Kind: math.MaxInt},
		{Kind: api.Rune}, {Kind: api.Rune, R: -1}, {Kind: api.Rune, R: utf8.MaxRune + 1}, {Kind: api.Rune, R: 0x301}, {Kind: api.Rune, R: 0xD800}, {Kind: api.Rune, R: '\x1b'}, {Kind: api.Rune, R: '\x7f'},
		{Kind: api.Rune, R: 'a', Held: -1}, {Kind: api.Rune, R: 'a', Held: 8}, {Kind: api.Rune, R: 'a', Held: 12}, {Kind: api.Rune, R: 'a', Held: -4}, {Kind: api.Rune, R: 'a', N: 1}, {Kind: api.Rune, R: 'a', N: -1},
		{Kind: api.Rune, R: 'a', Held: 1}, {Kind: api.Rune, R: 'a', Held: 3}, {Kind: api.Rune, R: 'a', Held: 5}, {Kind: api.Rune, R: 'a', Held: 7},
		{Kind: api.Rune, R: 'h', Held: 4}, {Kind: api.Rune, R: 'i', Held: 4}, {Kind: api.Rune, R: 'm', Held: 4}, {Kind: api.Rune, R: 'h', Held: 6}, {Kind: api.Rune, R: 'i', Held: 6}, {Kind: api.Rune, R: 'm', Held: 6},
		{Kind: api.Rune, R: '`', Held: 4}, {Kind: api.Rune, R: '{', Held: 4}, {Kind: api.Rune, R: 'A', Held: 4}, {Kind: api.Rune, R: 'Z', Held: 6}, {Kind: api.Rune, R: ' ', Held: 4}, {Kind: api.Rune, R: '日', Held: 4},
		{Kind: api.Rune, R: '[', Held: 2}, {Kind: api.Rune, R: 'O', Held: 2}, {Kind: api.Rune, R: '[', Held: 4}, {Kind: api.Rune, R: 'O', Held: 6},
		{Kind: api.Enter, Held: 1}, {Kind: api.Enter, Held: 3}, {Kind: api.Enter, Held: 4}, {Kind: api.Enter, Held: 6}, {Kind: api.Enter, R: '\r'}, {Kind: api.Enter, N: 1},
		{Kind: api.Back, Held: 1}, {Kind: api.Back, Held: 4}, {Kind: api.Back, Held: 7}, {Kind: api.Back, R: 'a'}, {Kind: api.Back, Held: -2},
		{Kind: api.Tab, Held: 2}, {Kind: api.Tab, Held: 3}, {Kind: api.Tab, Held: 4}, {Kind: api.Tab, Held: 9}, {Kind: api.Tab, R: '\t'},
		{Kind: api.Esc, Held: 1}, {Kind: api.Esc, Held: 2}, {Kind: api.Esc, Held: 4}, {Kind: api.Esc, Held: 8}, {Kind: api.Esc, R: '\x1b'}, {Kind: api.Esc, N: 12},
		{Kind: api.Up, Held: -1}, {Kind: api.Up, Held: 8}, {Kind: api.Up, R: 'A'}, {Kind: api.Up, N: 1}, {Kind: api.Delete, Held: 8}, {Kind: api.Delete, N: 3}, {Kind: api.End, R: 'F', N: 1},
		{Kind: api.Function}, {Kind: api.Function, N: -1}, {Kind: api.Function, N: 13}, {Kind: api.Function, N: math.MinInt}, {Kind: api.Function, N: math.MaxInt}, {Kind: api.Function, N: 1, R: 'F'}, {Kind: api.Function, N: 12, Held: 8}, {Kind: api.Function, N: 12, Held: -1},
	}
}

// P12.1

func TestCheckTold(t *testing.T) {
	for _, k := range every(few()) {
		if !Check(k) {
			t.Errorf("Check(%+v) is false", k)
		}
	}
}

func TestCheckNotTold(t *testing.T) {
	for _, k := range wrong() {
		if Check(k) {
			t.Errorf("Check(%+v) is true", k)
		}
	}
}

// Each kind, or what is none, with each rune, each number and all that may or may not be held: none but those that are told one by one.
func TestCheckAll(t *testing.T) {
	told := setOf(every(few()))
	helds := []int{math.MinInt, math.MinInt + 2, -8, -4, -2, -1, 0, 1, 2, 3, 4, 5, 6, 7, 8, 9, 10, 12, 15, 16, 64, math.MaxInt}
	numbers := []int{math.MinInt, -1, 0, 1, 2, 3, 11, 12, 13, 24, math.MaxInt}
	for kind := -3; kind <= 20; kind++ {
		for _, held := range helds {
			for _, n := range numbers {
				for _, r := range few() {
					k := api.Key{Kind: kind, R: r, N: n, Held: held}
					if got := Check(k); got != told[k] {
						t.Errorf("Check(%+v) is %v", k, got)
					}
				}
			}
		}
	}
}

// Every rune, and some of what is none, with each of Held.
func TestCheckEveryRune(t *testing.T) {
	for r := rune(-3); r <= utf8.MaxRune+3; r++ {
		for held := -1; held <= 8; held++ {
			want := false
			switch held {
			case 0:
				want = text.Width(r) > 0
			case api.Alt:
				want = text.Width(r) > 0 && r != '[' && r != 'O'
			case api.Ctrl, api.Ctrl + api.Alt:
				want = 'a' <= r && r <= 'g' || r == 'j' || r == 'k' || r == 'l' || 'n' <= r && r <= 'z'
			}
			k := api.Key{Kind: api.Rune, R: r, Held: held}
			if Check(k) != want {
				t.Fatalf("Check(%+v) is %v", k, !want)
			}
		}
	}
}

// P12.2

// write k: there is no error.
func write(t *testing.T, k api.Key, keypad bool) string {
	t.Helper()
	b, e := Write(k, keypad)
	if e != api.OK {
		t.Fatalf("Write(%+v, %v): error %v", k, keypad, e)
	}
	return b
}

// spelling: a key, and its bytes without keypad and with it.
type spelling struct {
	k            api.Key
	bytes, onPad string
}

func spellings() []spelling {
	l := []spelling{
		{api.Key{Kind: api.Rune, R: 'a'}, "a", "a"},
		{api.Key{Kind: api.Rune, R: ' '}, " ", " "},
		{api.Key{Kind: api.Rune, R: '~'}, "~", "~"},
		{api.Key{Kind: api.Rune, R: '['}, "[", "["},
		{api.Key{Kind: api.Rune, R: 'O'}, "O", "O"},
		{api.Key{Kind: api.Rune, R: 'é'}, "\xc3\xa9", "\xc3\xa9"},
		{api.Key{Kind: api.Rune, R: '日'}, "\xe6\x97\xa5", "\xe6\x97\xa5"},
		{api.Key{Kind: api.Rune, R: 0x1F600}, "\xf0\x9f\x98\x80", "\xf0\x9f\x98\x80"},
		{api.Key{Kind: api.Rune, R: utf8.RuneError}, "\xef\xbf\xbd", "\xef\xbf\xbd"},
		{api.Key{Kind: api.Rune, R: 'a', Held: api.Alt}, "\x1ba", "\x1ba"},
		{api.Key{Kind: api.Rune, R: ' ', Held: api.Alt}, "\x1b ", "\x1b "},
		{api.Key{Kind: api.Rune, R: ']', Held: api.Alt}, "\x1b]", "\x1b]"},
		{api.Key{Kind: api.Rune, R: '日', Held: api.Alt}, "\x1b\xe6\x97\xa5", "\x1b\xe6\x97\xa5"},
		{api.Key{Kind: api.Rune, R: 'a', Held: api.Ctrl}, "\x01", "\x01"},
		{api.Key{Kind: api.Rune, R: 'b', Held: api.Ctrl}, "\x02", "\x02"},
		{api.Key{Kind: api.Rune, R: 'g', Held: api.Ctrl}, "\x07", "\x07"},
		{api.Key{Kind: api.Rune, R: 'j', Held: api.Ctrl}, "\n", "\n"},
		{api.Key{Kind: api.Rune, R: 'z', Held: api.Ctrl}, "\x1a", "\x1a"},
		{api.Key{Kind: api.Rune, R: 'a', Held: api.Ctrl | api.Alt}, "\x1b\x01", "\x1b\x01"},
		{api.Key{Kind: api.Rune, R: 'z', Held: api.Ctrl | api.Alt}, "\x1b\x1a", "\x1b\x1a"},
		{api.Key{Kind: api.Enter}, "\r", "\r"},
		{api.Key{Kind: api.Enter, Held: api.Alt}, "\x1b\r", "\x1b\r"},
		{api.Key{Kind: api.Back}, "\x7f", "\x7f"},
		{api.Key{Kind: api.Back, Held: api.Alt}, "\x1b\x7f", "\x1b\x7f"},
		{api.Key{Kind: api.Esc}, "\x1b", "\x1b"},
		{api.Key{Kind: api.Tab}, "\t", "\t"},
		{api.Key{Kind: api.Tab, Held: api.Shift}, "\x1b[Z", "\x1b[Z"},
	}
	letters := []struct {
		kind                  int
		bare, onPad, with, by string
	}{
		{api.Up, "\x1b[A", "\x1bOA", "\x1b[1;", "A"},
		{api.Down, "\x1b[B", "\x1bOB", "\x1b[1;", "B"},
		{api.Right, "\x1b[C", "\x1bOC", "\x1b[1;", "C"},
		{api.Left, "\x1b[D", "\x1bOD", "\x1b[1;", "D"},
		{api.Home, "\x1b[H", "\x1bOH", "\x1b[1;", "H"},
		{api.End, "\x1b[F", "\x1bOF", "\x1b[1;", "F"},
		{api.Delete, "\x1b[3~", "\x1b[3~", "\x1b[3;", "~"},
		{api.PageUp, "\x1b[5~", "\x1b[5~", "\x1b[5;", "~"},
		{api.PageDown, "\x1b[6~", "\x1b[6~", "\x1b[6;", "~"},
	}
	for _, c := range letters {
		l = append(l, spelling{api.Key{Kind: c.kind}, c.bare, c.onPad})
		for held, digit := range []string{1: "2", 2: "3", 3: "4", 4: "5", 5: "6", 6: "7", 7: "8"} {
			if held > 0 {
				b := c.with + digit + c.by
				l = append(l, spelling{api.Key{Kind: c.kind, Held: held}, b, b})
			}
		}
	}
	for n, number := range []string{1: "11", 2: "12", 3: "13", 4: "14", 5: "15", 6: "17", 7: "18", 8: "19", 9: "20", 10: "21", 11: "23", 12: "24"} {
		for held, with := range []string{"", ";2", ";3", ";4", ";5", ";6", ";7", ";8"} {
			if n > 0 {
				b := "\x1b[" + number + with + "~"
				l = append(l, spelling{api.Key{Kind: api.Function, N: n, Held: held}, b, b})
			}
		}
	}
	return l
}

func TestWrite(t *testing.T) {
	for _, s := range spellings() {
		if got := write(t, s.k, false); got != s.bytes {
			t.Errorf("Write(%+v, false) = %q, want %q", s.k, got, s.bytes)
		}
		if got := write(t, s.k, true); got != s.onPad {
			t.Errorf("Write(%+v, true) = %q, want %q", s.k, got, s.onPad)
		}
	}
}

// The table has each key but Runes, and of those each with Ctrl's edges.
func TestSpellingsAreMany(t *testing.T) {
	var l []api.Key
	for _, s := range spellings() {
		l = append(l, s.k)
	}
	told := setOf(l)
	for _, k := range every(nil) {
		if k.Kind != api.Rune && !told[k] {
			t.Errorf("no spelling of %+v", k)
		}
	}
}

func TestWriteEveryCtrl(t *testing.T) {
	for i, r := range "abcdefghijklmnopqrstuvwxyz" {
		k := api.Key{Kind: api.Rune, R: r, Held: api.Ctrl}
		if !Check(k) {
			continue
		}
		for _, keypad := range []bool{false, true} {
			want := string([]byte{byte(i + 1)})
			if got := write(t, k, keypad); got != want {
				t.Errorf("Write(%+v) = %q, want %q", k, got, want)
			}
			k.Held |= api.Alt
			if got := write(t, k, keypad); got != "\x1b"+want {
				t.Errorf("Write(%+v) = %q, want ESC and %q", k, got, want)
			}
			k.Held = api.Ctrl
		}
	}
}

func TestWriteWrong(t *testing.T) {
	for _, k := range wrong() {
		for _, keypad := range []bool{false, true} {
			if b, e := Write(k, keypad); b != "" || e != api.ErrForm {
				t.Errorf("Write(%+v, %v) = %q, %v", k, keypad, b, e)
			}
		}
	}
}

// What Check refuses, Write and Name refuse; what it doesn't, they tell.
func TestCheckRules(t *testing.T) {
	for kind := -1; kind <= 17; kind++ {
		for held := -1; held <= 8; held++ {
			for _, n := range []int{-1, 0, 1, 12, 13} {
				for _, r := range []rune{-1, 0, ' ', '[', 'O', 'a', 'h', 'i', 'm', 'z', '{', 0x301, '日'} {
					agree(t, api.Key{Kind: kind, R: r, N: n, Held: held})
				}
			}
		}
	}
}

func agree(t *testing.T, k api.Key) {
	t.Helper()
	b, e := Write(k, true)
	name, f := Name(k)
	if Check(k) {
		if b == "" || e != api.OK || name == "" || f != api.OK {
			t.Errorf("Write(%+v) = %q, %v; Name = %q, %v", k, b, e, name, f)
		}
		return
	}
	if b != "" || e != api.ErrForm || name != "" || f != api.ErrForm {
		t.Errorf("Write(%+v) = %q, %v; Name = %q, %v, but Check refuses it", k, b, e, name, f)
	}
}
