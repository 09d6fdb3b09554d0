package keys

import (
	"slices"
	"strings"
	"testing"
	"unicode/utf8"

	"trellis/api"
)

// P12.5

// back: is k what is read of its bytes, and is it so at once, unless it is Esc?
func back(t *testing.T, k api.Key) {
	t.Helper()
	for _, keypad := range []bool{false, true} {
		b := write(t, k, keypad)
		l, left, e := Read(b, true)
		if len(l) != 1 || l[0] != k || left != "" || e != api.OK {
			t.Fatalf("Read(%q, true) = %+v, %q, %v; want %+v", b, l, left, e, k)
		}
		l, left, e = Read(b, false)
		if k.Kind == api.Esc && (len(l) != 0 || left != b) || k.Kind != api.Esc && (len(l) != 1 || l[0] != k || left != "") || e != api.OK {
			t.Fatalf("Read(%q, false) = %+v, %q, %v", b, l, left, e)
		}
	}
}

func TestReadOfWrite(t *testing.T) {
	var runes []rune
	for r := range rune(utf8.MaxRune + 1) {
		runes = append(runes, r)
	}
	for _, k := range every(runes) {
		back(t, k)
	}
}

// Keys one behind the other are read as they were written, but where an Esc could be taken for a part of the next one.
func TestReadOfMany(t *testing.T) {
	var want []api.Key
	var b strings.Builder
	for _, k := range every([]rune("a日é~[O1;AZ ")) {
		if k.Kind != api.Esc {
			want = append(want, k)
			b.WriteString(write(t, k, len(want)%2 == 0))
		}
	}
	for _, last := range []bool{false, true} {
		reads(t, b.String(), last, want, "")
	}
}

// readPieces: the keys of b cut at these places, what is left ahead of what comes, and what is left at last.
func readPieces(t *testing.T, b string, last bool, places ...int) ([]api.Key, string) {
	t.Helper()
	var all []api.Key
	left, from := "", 0
	for i, place := range append(places, len(b)) {
		var l []api.Key
		l, left = read(t, left+b[from:place], last && i == len(places))
		all = append(all, l...)
		from = place
	}
	return all, left
}

// cut b at these places: what comes of it is what comes of all at once.
func cut(t *testing.T, b string, places ...int) {
	t.Helper()
	for _, last := range []bool{false, true} {
		want, rest := read(t, b, last)
		got, left := readPieces(t, b, last, places...)
		if !slices.Equal(got, want) || left != rest {
			t.Fatalf("%q (%v) cut at %v: %+v, %q; want %+v, %q", b, last, places, got, left, want, rest)
		}
	}
}

// streams: bytes that may be cut within a key.
func streams() []string {
	l := []string{
		"", "a", "日本é\U0001F600", "\x1b", "\x1b\x1b", "\x1b\x1b[A\x1b", "\x1b\t\x1b\r", "\x1b日x\x1b\xe6\x97", "\xe6\x97", "\xe6\x97x\xff\x80", "\x1b\xe6\x97x",
		"\x1b[", "\x1bO", "\x1bOA\x1bOP\x1bO", "\x1b[1;2A\x1b[1;9A\x1b[24;8~\x1b[Z\x1b[0Z", "\x1b[1;\x1b[B", "\x1b[\x1bO\x1b[", "\x1b[12345678901A", "\x1b[1234567890A", "\x1b[000000001;2A", "\x1b[00000001;2A",
		"\x00\x01\x08\x09\x0d\x1a\x1c\x1f\x7f\x1b\x00\x1b\x01\x1b\x08", "\u0301\x1b\u0301\u200b", "x\x1b[3;;2~\x1b[;~",
	}
	for b := range toldBy() {
		l = append(l, "\x1b"+b, "\x1b\x1b"+b+"\x1b")
	}
	for _, b := range toldByNone() {
		l = append(l, "\x1b"+b, "日\x1b"+b+"\x1b[A")
	}
	return l
}

func TestCutIntoTwo(t *testing.T) {
	for _, b := range streams() {
		for i := range len(b) + 1 {
			cut(t, b, i)
		}
	}
}

func TestCutIntoThree(t *testing.T) {
	for _, b := range streams() {
		for i := range len(b) + 1 {
			for j := i; j <= len(b); j++ {
				cut(t, b, i, j)
			}
		}
	}
}

func TestCutIntoBytes(t *testing.T) {
	for _, b := range append(streams(), strings.Repeat("\x1b[1;2A日\x1b", 300)) {
		var places []int
		for i := range len(b) {
			places = append(places, i)
		}
		cut(t, b, places...)
	}
}

// Whatever is struck, in whatever order, the model reads it so, and cuts make no difference.
func TestOnAndOn(t *testing.T) {
	pieces := strings.Split("\x1b|\x1b[|\x1bO|[|O|1|1;|;|0|00|2|3|8|9|24|A|B|H|~|Z|a|é|日|\xe6|\x97|\xa5|\xff|\xf0\x9f|\u0301|\t|\r|\x00|\x03|\x1c|\x7f| |-|1234567890|0000000|\x1b[1;2A|\x1b[24~|P", "|")
	seed := uint32(1)
	next := func(n int) int {
		seed = seed*1664525 + 1013904223
		return int(seed>>8) % n
	}
	for range 20000 {
		var b strings.Builder
		var places []int
		for range 1 + next(12) {
			b.WriteString(pieces[next(len(pieces))])
			if next(2) == 0 {
				places = append(places, max(b.Len()-next(3), 0))
			}
		}
		slices.Sort(places)
		hold(t, b.String(), next(2) == 0)
		cut(t, b.String(), places...)
	}
}
