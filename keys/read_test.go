package keys

import (
	"regexp"
	"slices"
	"strings"
	"testing"
	"unicode/utf8"
	"unsafe"

	"trellis/api"
	"trellis/text"
)

// P12.3

// read b: there is no error.
func read(t *testing.T, b string, last bool) ([]api.Key, string) {
	t.Helper()
	l, left, e := Read(b, last)
	if e != api.OK {
		t.Fatalf("Read(%q, %v): error %v", b, last, e)
	}
	return l, left
}

// reads: are the keys of b these, and is this left?
func reads(t *testing.T, b string, last bool, want []api.Key, left string) {
	t.Helper()
	got, rest := read(t, b, last)
	if !slices.Equal(got, want) || rest != left {
		t.Errorf("Read(%q, %v) = %+v, %q; want %+v, %q", b, last, got, rest, want, left)
	}
}

// Keys that are often told below.
var (
	escape = api.Key{Kind: api.Esc}
	broken = api.Key{Kind: api.Rune, R: utf8.RuneError}
)

// list of keys.
func list(l ...api.Key) []api.Key { return l }

// typed: the Rune of each rune of s.
func typed(s string) []api.Key {
	var l []api.Key
	for _, r := range s {
		l = append(l, api.Key{Kind: api.Rune, R: r})
	}
	return l
}

// ctrl: the Rune r with Ctrl.
func ctrl(r rune) api.Key { return api.Key{Kind: api.Rune, R: r, Held: api.Ctrl} }

// alt: k, with Alt.
func alt(k api.Key) api.Key {
	k.Held |= api.Alt
	return k
}

// controls: the key of each byte below 20 (base 16), but ESC, and of 7F.
func controls() map[byte]api.Key {
	mark := api.Key{Kind: api.Rune, R: '?'}
	m := map[byte]api.Key{
		0x00: {Kind: api.Rune, R: ' '},
		0x08: {Kind: api.Back},
		0x09: {Kind: api.Tab},
		0x0D: {Kind: api.Enter},
		0x1C: mark, 0x1D: mark, 0x1E: mark, 0x1F: mark,
		0x7F: {Kind: api.Back},
	}
	for _, c := range []struct {
		first byte
		runes string
	}{{0x01, "abcdefg"}, {0x0A, "jkl"}, {0x0E, "nopqrstuvwxyz"}} {
		for i, r := range c.runes {
			m[c.first+byte(i)] = ctrl(r)
		}
	}
	return m
}

func TestReadControls(t *testing.T) {
	m := controls()
	if len(m) != 32 {
		t.Fatalf("%d of 32 bytes have a key", len(m))
	}
	for b, k := range m {
		s := string(rune(b))
		for _, last := range []bool{false, true} {
			reads(t, s, last, list(k), "")
			reads(t, s+s+"x", last, append(list(k, k), typed("x")...), "")
			if b == '\t' {
				reads(t, "\x1b"+s, last, list(escape, k), "")
				continue
			}
			reads(t, "\x1b"+s, last, list(alt(k)), "")
			reads(t, "\x1b"+s+s, last, list(alt(k), k), "")
		}
	}
}

func TestReadRunes(t *testing.T) {
	mark := typed("?")
	for _, c := range []struct {
		b    string
		want []api.Key
	}{
		{"a", typed("a")},
		{" ", typed(" ")},
		{"~", typed("~")},
		{"[", typed("[")},
		{"O", typed("O")},
		{"[A", typed("[A")},
		{"aé日\U0001F600z", typed("aé日\U0001F600z")},
		{"\u0301", mark},
		{"\u0080", mark},
		{"\u009f", mark},
		{"\u200b", mark},
		{"\ufeff", mark},
		{"e\u0301x", typed("e?x")},
		{"\ufffd", list(broken)},
		{"\xff", list(broken)},
		{"\x80", list(broken)},
		{"\xbf", list(broken)},
		{"\xc0\x80", list(broken, broken)},
		{"\xc1\xbf", list(broken, broken)},
		{"\xed\xa0\x80", list(broken, broken, broken)},
		{"\xf4\x90\x80\x80", list(broken, broken, broken, broken)},
		{"\xf5", list(broken)},
		{"\xe6\x97x", append(list(broken, broken), typed("x")...)},
		{"\xe6x", append(list(broken), typed("x")...)},
		{"\xe6\x97\x1b[A", list(broken, broken, api.Key{Kind: api.Up})},
		{"\xe6日", append(list(broken), typed("日")...)},
		{"\xc3\r", list(broken, api.Key{Kind: api.Enter})},
	} {
		for _, last := range []bool{false, true} {
			reads(t, c.b, last, c.want, "")
			want := slices.Clone(c.want)
			if c.b[0] != '[' && c.b[0] != 'O' {
				want[0] = alt(want[0])
				reads(t, "\x1b"+c.b, last, want, "")
			}
		}
	}
}

// A rune that isn't whole waits for more, unless there is none.
func TestReadPartsOfRunes(t *testing.T) {
	for _, r := range []string{"é", "日", "\U0001F600", "\u0301", "\u200b", "\U0010FFFF"} {
		for n := 1; n < len(r); n++ {
			part := r[:n]
			reads(t, part, false, nil, part)
			reads(t, part, true, slices.Repeat(list(broken), n), "")
			reads(t, "ab"+part, false, typed("ab"), part)
			reads(t, "\x1b"+part, false, nil, "\x1b"+part)
			reads(t, "x\x1b"+part, false, typed("x"), "\x1b"+part)
			reads(t, "\x1b"+part, true, append(list(alt(broken)), slices.Repeat(list(broken), n-1)...), "")
		}
	}
}

func TestReadEscape(t *testing.T) {
	reads(t, "\x1b", false, nil, "\x1b")
	reads(t, "\x1b", true, list(escape), "")
	reads(t, "a\x1b", false, typed("a"), "\x1b")
	reads(t, "a\x1b", true, append(typed("a"), escape), "")
	reads(t, "\x1b\x1b", false, list(escape), "\x1b")
	reads(t, "\x1b\x1b", true, list(escape, escape), "")
	reads(t, "\x1b\x1b\x1b", false, list(escape, escape), "\x1b")
	reads(t, "\x1b\x1ba", false, list(escape, alt(typed("a")[0])), "")
	reads(t, "\x1b\x1b[A", false, list(escape, api.Key{Kind: api.Up}), "")
	reads(t, "\x1b\t", false, list(escape, api.Key{Kind: api.Tab}), "")
	reads(t, "\x1b\t\x1b", false, list(escape, api.Key{Kind: api.Tab}), "\x1b")
	reads(t, "\x1b\x1b\t", true, list(escape, escape, api.Key{Kind: api.Tab}), "")
	reads(t, "\x1b\r", false, list(api.Key{Kind: api.Enter, Held: api.Alt}), "")
	reads(t, "\x1b\x02", false, list(alt(ctrl('b'))), "")
	reads(t, "\x1bo", false, list(alt(typed("o")[0])), "")
	reads(t, "\x1b]", false, list(alt(typed("]")[0])), "")
}

// Behind ESC [ or ESC O one byte more must come, and here none does.
func TestReadUnended(t *testing.T) {
	for _, b := range []string{
		"\x1b[", "\x1bO", "\x1b[1", "\x1b[;", "\x1b[1;", "\x1b[1;2", "\x1b[;;", "\x1b[24;8", "\x1b[9", "\x1b[0",
		"\x1b[123456789", "\x1b[1234567890", "\x1b[;;;;;;;;;;", "\x1b[000000001;", "\x1b[0;0;0;0;0;",
	} {
		reads(t, b, false, nil, b)
		reads(t, "日"+b, false, typed("日"), b)
		reads(t, b, true, append(list(escape), typed(b[1:])...), "")
	}
}

// toldBy: bytes behind ESC that tell a key, with what is held.
func toldBy() map[string]api.Key {
	return map[string]api.Key{
		"[A": {Kind: api.Up}, "[B": {Kind: api.Down}, "[C": {Kind: api.Right}, "[D": {Kind: api.Left}, "[H": {Kind: api.Home}, "[F": {Kind: api.End},
		"OA": {Kind: api.Up}, "OB": {Kind: api.Down}, "OC": {Kind: api.Right}, "OD": {Kind: api.Left}, "OH": {Kind: api.Home}, "OF": {Kind: api.End},
		"[1;1A": {Kind: api.Up}, "[1;2A": {Kind: api.Up, Held: 1}, "[1;3B": {Kind: api.Down, Held: 2}, "[1;4C": {Kind: api.Right, Held: 3}, "[1;5D": {Kind: api.Left, Held: 4}, "[1;6H": {Kind: api.Home, Held: 5}, "[1;7F": {Kind: api.End, Held: 6}, "[1;8A": {Kind: api.Up, Held: 7},
		"[01;2A": {Kind: api.Up, Held: 1}, "[1;02A": {Kind: api.Up, Held: 1}, "[0001;008A": {Kind: api.Up, Held: 7}, "[00000001;2A": {Kind: api.Up, Held: 1}, "[1;00000002A": {Kind: api.Up, Held: 1}, "[001;01F": {Kind: api.End},
		"[Z":  {Kind: api.Tab, Held: api.Shift},
		"[3~": {Kind: api.Delete}, "[5~": {Kind: api.PageUp}, "[6~": {Kind: api.PageDown}, "[3;1~": {Kind: api.Delete}, "[3;2~": {Kind: api.Delete, Held: 1}, "[5;5~": {Kind: api.PageUp, Held: 4}, "[6;8~": {Kind: api.PageDown, Held: 7},
		"[11~": {Kind: api.Function, N: 1}, "[15~": {Kind: api.Function, N: 5}, "[17~": {Kind: api.Function, N: 6}, "[21~": {Kind: api.Function, N: 10}, "[23~": {Kind: api.Function, N: 11}, "[24~": {Kind: api.Function, N: 12},
		"[011~": {Kind: api.Function, N: 1}, "[0000000003~": {Kind: api.Delete}, "[0000000024~": {Kind: api.Function, N: 12}, "[24;00008~": {Kind: api.Function, N: 12, Held: 7}, "[000024;01~": {Kind: api.Function, N: 12}, "[03;08~": {Kind: api.Delete, Held: 7},
	}
}

// toldByNone: bytes behind ESC that tell no key; the last of them is a whole one by itself.
func toldByNone() []string {
	return []string{
		// letters that are no key's, and what is no letter
		"[E", "[G", "[I", "[P", "[R", "[Y", "[a", "[z", "[@", "[[", "[O", "[]", "[ ", "[:", "[<", "[/", "[?", "[}", "[m",
		"OP", "OE", "OG", "OZ", "O~", "Oa", "OO", "O[", "O1", "O;", "O0", "O ", "O9", "OS",
		"[\x00", "[\r", "[\x7f", "[\x01", "O\x00", "O\r", "O\x7f", "O\x1f", "[日", "O日", "[\xff", "O\xff", "[1;日", "[3日",
		// numbers ahead of a letter
		"[1A", "[01A", "[2A", "[0A", "[;A", "[;;A", "[;2A", "[1;A", "[1;;A", "[1;;2A", "[1;2;A", "[1;2;3A", "[;1;2A", "[0;2A", "[2;2A", "[10;2A", "[11;2A", "[1;0A", "[1;00A", "[1;9A", "[1;10A", "[1;12A", "[1;99A", "[1;0009H", "[3;2D", "[3A",
		// numbers ahead of ~
		"[~", "[;~", "[;;~", "[;2~", "[3;~", "[3;;~", "[3;;2~", "[3;2;~", "[3;2;2~", "[;3~", "[;3;2~", "[3;0~", "[3;00~", "[3;9~", "[3;10~", "[3;18~", "[24;0~",
		"[0~", "[1~", "[2~", "[4~", "[7~", "[8~", "[9~", "[10~", "[16~", "[22~", "[25~", "[26~", "[28~", "[33~", "[99~", "[111~", "[300~", "[030~", "[9999999999~", "[4294967299~", "[1;2~", "[0;1~", "[0000000000~",
		// numbers ahead of Z, and noughts alone
		"[0Z", "[1Z", "[;Z", "[1;2Z", "[1;1Z", "[00Z", "[000A", "[1;2E", "[1;2G", "[1;2Z", "[24;2a",
		// more than ten bytes
		"[00000000001", "[00000000003~", "[000000001;2A", "[1;000000002A", "[00000000000;", "[;;;;;;;;;;;", "[12345678901", "[1234567890;", "[1234567890~", "[0000000000024~",
	}
}

func TestReadTold(t *testing.T) {
	for b, k := range toldBy() {
		for _, last := range []bool{false, true} {
			reads(t, "\x1b"+b, last, list(k), "")
			reads(t, "x\x1b"+b+"1\x1b"+b, last, slices.Concat(typed("x"), list(k), typed("1"), list(k)), "")
		}
	}
	for _, s := range spellings() {
		for _, b := range []string{s.bytes, s.onPad} {
			reads(t, b, true, list(s.k), "")
		}
	}
}

func TestReadToldByNone(t *testing.T) {
	for _, b := range toldByNone() {
		for _, last := range []bool{false, true} {
			rest, left := read(t, b, last)
			if left != "" {
				t.Fatalf("Read(%q): %q is left", b, left)
			}
			reads(t, "\x1b"+b, last, append(list(escape), rest...), "")
			reads(t, "y\x1b"+b+"\x1b[A", last, slices.Concat(typed("y"), list(escape), rest, list(api.Key{Kind: api.Up})), "")
		}
	}
	reads(t, "\x1b[\x1b", false, append(list(escape), typed("[")...), "\x1b")
	reads(t, "\x1b[1;\x1b[B", false, slices.Concat(list(escape), typed("[1;"), list(api.Key{Kind: api.Down})), "")
	reads(t, "\x1bO\x1bOB", false, slices.Concat(list(escape), typed("O"), list(api.Key{Kind: api.Down})), "")
	reads(t, "\x1b[\xe6", false, append(list(escape), typed("[")...), "\xe6")
	reads(t, "\x1bO\xe6\x97", false, append(list(escape), typed("O")...), "\xe6\x97")
	reads(t, "\x1bO\xe6\x97", true, slices.Concat(list(escape), typed("O"), list(broken, broken)), "")
	reads(t, "\x1b[12345678901", false, append(list(escape), typed("[12345678901")...), "")
}

// Each of the numbers from 0 to 99 ahead of ~, ahead of a letter, and behind the first.
func TestReadEveryNumber(t *testing.T) {
	for n := range 100 {
		digits := string([]rune{'0' + rune(n/10), '0' + rune(n%10)})
		k, ok := ofNumbers[strings.TrimLeft(digits, "0")]
		readsIf(t, "["+digits+"~", k, ok)
		for held := range 100 {
			second := string([]rune{'0' + rune(held/10), '0' + rune(held%10)})
			k.Held = held - 1
			with := held >= 1 && held <= 8
			readsIf(t, "["+digits+";"+second+"~", k, ok && with)
			readsIf(t, "["+digits+";"+second+"C", api.Key{Kind: api.Right, Held: held - 1}, n == 1 && with)
			readsIf(t, "["+digits+";"+second+"Z", api.Key{}, false)
		}
	}
}

// readsIf: do ESC and b tell k, if this is so, and else Esc and what b tells?
func readsIf(t *testing.T, b string, k api.Key, so bool) {
	t.Helper()
	want := list(k)
	if !so {
		want = append(list(escape), typed(b)...)
	}
	reads(t, "\x1b"+b, false, want, "")
}

// Each byte behind ESC, behind ESC [, behind ESC O, and behind numbers.
func TestReadEveryByte(t *testing.T) {
	for _, ahead := range []string{"", "a", "\x1b", "\x1b[", "\x1bO", "\x1b[1;2", "\x1b[3", "\x1b[3;2", "\x1b[0000000003", "\x1b[00000001;2", "\xe6", "\xe6\x97", "\x1b\xe6\x97"} {
		for b := range 256 {
			for _, last := range []bool{false, true} {
				hold(t, ahead+string([]byte{byte(b)}), last)
				hold(t, ahead+string([]byte{byte(b)})+"~", last)
			}
		}
	}
}

func TestReadMany(t *testing.T) {
	for _, last := range []bool{false, true} {
		l, left := read(t, strings.Repeat("a", api.MaxText), last)
		if !slices.Equal(l, typed(strings.Repeat("a", api.MaxText))) || left != "" {
			t.Errorf("the greatest number of bytes: %d keys, %q is left", len(l), left)
		}
		l, left = read(t, strings.Repeat("\x1b[A", api.MaxText/3)+"z", last)
		if len(l) != api.MaxText/3+1 || left != "" {
			t.Errorf("the greatest number of bytes: %d keys, %q is left", len(l), left)
		}
		for _, b := range []string{
			strings.Repeat("a", api.MaxText+1), strings.Repeat("\x1b", api.MaxText+1), strings.Repeat("日", api.MaxText),
			strings.Repeat("\xff", 2*api.MaxText), strings.Repeat("\x1b[A", api.MaxText/3) + "zz",
		} {
			if l, left, e := Read(b, last); l != nil || left != "" || e != api.ErrMany {
				t.Errorf("Read of %d bytes: %d keys, %q, %v", len(b), len(l), left, e)
			}
		}
	}
}

func TestReadNothing(t *testing.T) {
	reads(t, "", false, nil, "")
	reads(t, "", true, nil, "")
}

// What reading means, written by the chapter's words with patterns.

var (
	opening  = regexp.MustCompile(`^\x1b(\[[0-9;]{0,10}|O)`)
	byLetter = regexp.MustCompile(`^\x1b(?:\[|O|\[0*1;0*([1-8]))([ABCDFH])$`)
	byNumber = regexp.MustCompile(`^\x1b\[0*([356]|1[1-5]|1[7-9]|2[0134])(?:;0*([1-8]))?~$`)

	ofControls = controls()
	ofLetters  = map[string]int{"A": api.Up, "B": api.Down, "C": api.Right, "D": api.Left, "H": api.Home, "F": api.End}
	ofNumbers  = toldByNumbers()
)

// toldByNumbers: the keys that are.
func toldByNumbers() map[string]api.Key {
	m := map[string]api.Key{"3": {Kind: api.Delete}, "5": {Kind: api.PageUp}, "6": {Kind: api.PageDown}}
	for n, number := range strings.Split("11 12 13 14 15 17 18 19 20 21 23 24", " ") {
		m[number] = api.Key{Kind: api.Function, N: n + 1}
	}
	return m
}

// modelFirst: the first key of b, and how many bytes it takes; 0: it isn't whole.
func modelFirst(b string, last bool) (api.Key, int) {
	if k, ok := ofControls[b[0]]; ok {
		return k, 1
	}
	if b[0] != '\x1b' {
		r, n := text.Next(b)
		switch {
		case !last && !utf8.FullRune([]byte(b)):
			return api.Key{}, 0
		case text.Width(r) == 0:
			r = '?'
		}
		return api.Key{Kind: api.Rune, R: r}, n
	}
	start := opening.FindString(b)
	switch {
	case (len(b) == 1 || len(start) == len(b)) && last:
		return escape, 1
	case len(b) == 1 || len(start) == len(b):
		return api.Key{}, 0
	case start != "":
		return modelSequence(b[:len(start)+1])
	case b[1] == '\x1b' || b[1] == '\t':
		return escape, 1
	}
	k, n := modelFirst(b[1:], last)
	if n == 0 {
		return api.Key{}, 0
	}
	return alt(k), n + 1
}

// modelSequence: the key of all of b, or ESC alone.
func modelSequence(b string) (api.Key, int) {
	held := func(digit string) int { return max(strings.Index("12345678", digit), 0) }
	if m := byLetter.FindStringSubmatch(b); m != nil {
		return api.Key{Kind: ofLetters[m[2]], Held: held(m[1])}, len(b)
	}
	if m := byNumber.FindStringSubmatch(b); m != nil {
		k := ofNumbers[m[1]]
		k.Held = held(m[2])
		return k, len(b)
	}
	if b == "\x1b[Z" {
		return api.Key{Kind: api.Tab, Held: api.Shift}, len(b)
	}
	return escape, 1
}

func model(b string, last bool) ([]api.Key, string) {
	var l []api.Key
	for b != "" {
		k, n := modelFirst(b, last)
		if n == 0 {
			break
		}
		l = append(l, k)
		b = b[n:]
	}
	return l, b
}

// hold: is b read as the model reads it; and can each key be told, and is what is left short, and nothing, if nothing comes?
func hold(t *testing.T, b string, last bool) {
	t.Helper()
	want, left := model(b, last)
	reads(t, b, last, want, left)
	if len(left) > 12 || last && left != "" {
		t.Errorf("Read(%q, %v): %q is left", b, last, left)
	}
	for _, k := range want {
		if !Check(k) {
			t.Errorf("Read(%q, %v) tells %+v, which can't be told", b, last, k)
		}
	}
}

// words: all that up to n of the pieces, one behind the other, make.
func words(pieces []string, n int) []string {
	l := []string{""}
	for from := 0; n > 0; n-- {
		to := len(l)
		for _, w := range l[from:to] {
			for _, p := range pieces {
				l = append(l, w+p)
			}
		}
		from = to
	}
	return l
}

// All that a few bytes may be.
func TestReadAll(t *testing.T) {
	for _, b := range words([]string{"\x1b", "[", "O", "1", ";", "2", "A", "~", "Z", "\t", "\xe6", "\x97", "a"}, 4) {
		hold(t, b, false)
		hold(t, b, true)
	}
	for _, b := range words([]string{"0", "1", "2", "3", "8", "9", ";", "A", "~"}, 5) {
		hold(t, "\x1b["+b, false)
		hold(t, "\x1b["+b, true)
	}
	for _, b := range words([]string{"0", "1", ";", "3", "2"}, 4) {
		for _, ahead := range []string{"000000", "00000", "0000001", "00001;000", "003;0000"} {
			hold(t, "\x1b["+ahead+b+"A", false)
			hold(t, "\x1b["+ahead+b+"~", false)
			hold(t, "\x1b["+ahead+b, true)
		}
	}
}

// P2: what is answered is new memory.
func TestReadNewMemory(t *testing.T) {
	b := strings.Repeat("ab\x1b[", 3) + "1;2"
	l, left := read(t, b, false)
	again, rest := read(t, b, false)
	for i := range l {
		l[i] = api.Key{}
	}
	if want, _ := model(b, false); !slices.Equal(again, want) {
		t.Errorf("the keys of two calls share memory: %+v", again)
	}
	at, first := address(left), address(b)
	if at >= first && at < first+uintptr(len(b)) || at == address(rest) {
		t.Error("what is left shares memory with what was handed in")
	}
}

// address of the first byte of s.
func address(s string) uintptr { return uintptr(unsafe.Pointer(unsafe.StringData(s))) }
