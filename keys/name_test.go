package keys

import (
	"strconv"
	"strings"
	"testing"
	"unicode/utf8"

	"trellis/api"
)

// P12.4

// titles: keys and their names: each kind, and each of Held.
func titles() map[string]api.Key {
	m := map[string]api.Key{
		"a": {Kind: api.Rune, R: 'a'}, "-": {Kind: api.Rune, R: '-'}, "C": {Kind: api.Rune, R: 'C'}, "M": {Kind: api.Rune, R: 'M'}, "S": {Kind: api.Rune, R: 'S'}, "F": {Kind: api.Rune, R: 'F'}, "[": {Kind: api.Rune, R: '['}, "O": {Kind: api.Rune, R: 'O'},
		"日": {Kind: api.Rune, R: '日'}, "é": {Kind: api.Rune, R: 'é'}, "\U0001F600": {Kind: api.Rune, R: 0x1F600}, "\ufffd": {Kind: api.Rune, R: utf8.RuneError}, "\u00a0": {Kind: api.Rune, R: 0xA0}, "h": {Kind: api.Rune, R: 'h'}, "1": {Kind: api.Rune, R: '1'},
		"M-a": {Kind: api.Rune, R: 'a', Held: 2}, "M--": {Kind: api.Rune, R: '-', Held: 2}, "M-C": {Kind: api.Rune, R: 'C', Held: 2}, "M-S": {Kind: api.Rune, R: 'S', Held: 2}, "M-F": {Kind: api.Rune, R: 'F', Held: 2}, "M-日": {Kind: api.Rune, R: '日', Held: 2}, "M-\ufffd": {Kind: api.Rune, R: utf8.RuneError, Held: 2}, "M-i": {Kind: api.Rune, R: 'i', Held: 2},
		"C-a": {Kind: api.Rune, R: 'a', Held: 4}, "C-b": {Kind: api.Rune, R: 'b', Held: 4}, "C-z": {Kind: api.Rune, R: 'z', Held: 4}, "C-M-a": {Kind: api.Rune, R: 'a', Held: 6}, "C-M-z": {Kind: api.Rune, R: 'z', Held: 6},
		"Space": {Kind: api.Rune, R: ' '}, "M-Space": {Kind: api.Rune, R: ' ', Held: 2},
		"Enter": {Kind: api.Enter}, "M-Enter": {Kind: api.Enter, Held: 2},
		"Tab": {Kind: api.Tab}, "S-Tab": {Kind: api.Tab, Held: 1},
		"BSpace": {Kind: api.Back}, "M-BSpace": {Kind: api.Back, Held: 2},
		"Escape": {Kind: api.Esc},
	}
	signs := []string{"", "S-", "M-", "M-S-", "C-", "C-S-", "C-M-", "C-M-S-"}
	for name, kind := range map[string]int{"Up": api.Up, "Down": api.Down, "Right": api.Right, "Left": api.Left, "Home": api.Home, "End": api.End, "PageUp": api.PageUp, "PageDown": api.PageDown, "Delete": api.Delete} {
		for held, sign := range signs {
			m[sign+name] = api.Key{Kind: kind, Held: held}
		}
	}
	for n := 1; n <= 12; n++ {
		for held, sign := range signs {
			m[sign+"F"+strconv.Itoa(n)] = api.Key{Kind: api.Function, N: n, Held: held}
		}
	}
	return m
}

func TestName(t *testing.T) {
	for name, k := range titles() {
		if got, e := Name(k); got != name || e != api.OK {
			t.Errorf("Name(%+v) = %q, %v; want %q", k, got, e, name)
		}
	}
}

// The table has each key but Runes.
func TestTitlesAreMany(t *testing.T) {
	var l []api.Key
	for _, k := range titles() {
		l = append(l, k)
	}
	told := setOf(l)
	for _, k := range every(nil) {
		if k.Kind != api.Rune && !told[k] {
			t.Errorf("no title of %+v", k)
		}
	}
}

func TestNameWrong(t *testing.T) {
	for _, k := range wrong() {
		if name, e := Name(k); name != "" || e != api.ErrForm {
			t.Errorf("Name(%+v) = %q, %v", k, name, e)
		}
	}
}

func TestNamed(t *testing.T) {
	for name, k := range titles() {
		if got, e := Named(name); got != k || e != api.OK {
			t.Errorf("Named(%q) = %+v, %v; want %+v", name, got, e, k)
		}
	}
}

// No two keys have one name, and each is found by it again.
func TestNamedEveryKey(t *testing.T) {
	owner := map[string]api.Key{}
	for _, k := range every(few()) {
		name, e := Name(k)
		if other, ok := owner[name]; ok && other != k || e != api.OK {
			t.Errorf("Name(%+v) = %q, %v; so is that of %+v", k, name, e, other)
		}
		owner[name] = k
		if got, e := Named(name); got != k || e != api.OK {
			t.Errorf("Named(%q) = %+v, %v; want %+v", name, got, e, k)
		}
	}
}

// Every rune's name is the rune, but the blank's; what Check refuses has none.
func TestNameEveryRune(t *testing.T) {
	for r := range rune(utf8.MaxRune + 1) {
		if utf8.ValidRune(r) {
			nameOfRune(t, "", api.Key{Kind: api.Rune, R: r})
			nameOfRune(t, "M-", api.Key{Kind: api.Rune, R: r, Held: api.Alt})
		}
	}
}

// nameOfRune: is sign and its rune the name of k, if it may be?
func nameOfRune(t *testing.T, sign string, k api.Key) {
	t.Helper()
	s := sign + string(k.R)
	got, e := Named(s)
	if !Check(k) || k.R == ' ' {
		if got != (api.Key{}) || e != api.ErrText {
			t.Fatalf("Named(%q) = %+v, %v", s, got, e)
		}
		return
	}
	name, f := Name(k)
	if got != k || e != api.OK || name != s || f != api.OK {
		t.Fatalf("Named(%q) = %+v, %v; Name(%+v) = %q, %v", s, got, e, k, name, f)
	}
}

func TestNamedWrong(t *testing.T) {
	for _, s := range []string{
		"", " ", "M- ", "  ", "\x00", "\t", "\r", "\x1b", "\x7f", "\n", "\u0301", "\u0080", "\u200b",
		"\xff", "\x80", "\xe6\x97", "\xc0\x80", "\xed\xa0\x80", "M-\xff", "a\xff", "\xffa", "M-\xe6", "Up\xff", "日\xe6", "\xe6日",
		"ab", "aa", "日本", "a ", " a", "e\u0301",
		"C-", "M-", "S-", "C-M-", "C-M-S-", "M-S-", "--", "C--", "S--", "C-M--", "M---",
		"C-C-Up", "M-M-Up", "S-S-Up", "M-C-Up", "S-C-Up", "S-M-Up", "S-M-C-Up", "C-S-M-Up", "M-C-S-Up", "M-S-C-Up", "S-C-M-Up", "C-M-C-Up", "C-M-S-S-Up", "C-M-M-S-Up", "C-C-a", "M-M-a", "M-C-a", "M-M--",
		"c-a", "m-a", "s-Up", "C+a", "^a", "C_a", "Ctrl-a", "CUp", "C -Up", "C- Up", "C-Up ", " C-Up", "M-Up-", "-Up", "Up-C",
		"S-a", "S-Space", "C-Space", "C-M-Space", "M-S-a", "C-S-a", "C-M-S-a", "S-日", "C-日", "C-A", "C-Z", "C-1", "C-`", "C-{", "C-h", "C-i", "C-m", "C-M-h", "C-M-i", "C-M-m", "M-[", "M-O", "C-[", "C-M-[", "C-M-O",
		"S-Enter", "C-Enter", "C-M-Enter", "M-S-Enter", "S-BSpace", "C-BSpace", "C-M-S-BSpace", "M-Tab", "C-Tab", "M-S-Tab", "C-S-Tab", "S-Escape", "M-Escape", "C-Escape", "C-M-S-Escape",
		"F0", "F13", "F00", "F01", "F012", "F1 ", "F 1", "F+1", "F-1", "F1F", "FF", "F99", "F1.", "F1_0", "F0x1", "Fa", "F18446744073709551617", "F4294967297", "f1", "S-F13", "C-M-S-F0", "F120", "F日",
		"enter", "ENTER", "Ente", "Enterr", "Return", "tab", "Backspace", "Back", "bspace", "Bspace", "Esc", "escape", "up", "UP", "Del", "delete", "Pageup", "PgUp", "PPage", "space", "SPACE", "Spac", "Spaces", "Rune", "Function", "UpDown", "Home ", "Left\n", "Right\x00",
		strings.Repeat("C-", 5000) + "Up", strings.Repeat("a", 2*api.MaxText), "F" + strings.Repeat("1", 5000),
	} {
		if k, e := Named(s); k != (api.Key{}) || e != api.ErrText {
			t.Errorf("Named(%q) = %+v, %v", s, k, e)
		}
	}
}

// All that a few pieces make: those that are some key's name, and no others.
func TestNamedAll(t *testing.T) {
	owner := map[string]api.Key{}
	for _, k := range every(few()) {
		name, _ := Name(k)
		owner[name] = k
	}
	pieces := []string{"C-", "M-", "S-", "-", "F", "1", "2", "0", "Up", "Space", "Enter", "Tab", " ", "a", "i", "[", "O", "日", "\u0301", "\xff"}
	for _, s := range words(pieces, 4) {
		k, e := Named(s)
		if want, ok := owner[s]; ok && (k != want || e != api.OK) || !ok && (k != api.Key{} || e != api.ErrText) {
			t.Errorf("Named(%q) = %+v, %v", s, k, e)
		}
	}
}
