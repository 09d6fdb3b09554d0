package render

import (
	"math"
	"strings"
	"testing"

	"trellis/api"
)

func TestWait(t *testing.T) {
	full := strings.Repeat("x", api.MaxQueue)
	dirty := api.Line{Dirty: true}
	for _, c := range []struct {
		what string
		q    api.Line
		b    string
		want api.Line
	}{
		{"nothing behind nothing", api.Line{}, "", api.Line{}},
		{"nothing behind some", api.Line{Bytes: "ab"}, "", api.Line{Bytes: "ab"}},
		{"some behind nothing", api.Line{}, "cd", api.Line{Bytes: "cd"}},
		{"some behind some", api.Line{Bytes: "ab"}, "cd", api.Line{Bytes: "abcd"}},
		{"bytes that aren't whole runes", api.Line{Bytes: "\xe6\x97"}, "\xa5\xff\x00", api.Line{Bytes: "日\xff\x00"}},
		{"dirty stays so", dirty, "ab", dirty},
		{"dirty stays so, without anything", dirty, "", dirty},
		{"dirty with bytes", api.Line{Bytes: "ab", Dirty: true}, "cd", dirty},
		{"dirty with bytes, and none", api.Line{Bytes: "ab", Dirty: true}, "", dirty},
		{"just as many as may be", api.Line{}, full, api.Line{Bytes: full}},
		{"just as many, with some ahead", api.Line{Bytes: "x"}, full[1:], api.Line{Bytes: full}},
		{"just as many, with some behind", api.Line{Bytes: full[1:]}, "x", api.Line{Bytes: full}},
		{"full stays so", api.Line{Bytes: full}, "", api.Line{Bytes: full}},
		{"one too many", api.Line{Bytes: full}, "x", dirty},
		{"one too many behind one", api.Line{Bytes: "x"}, full, dirty},
		{"one too many behind nothing", api.Line{}, full + "x", dirty},
		{"too many ahead", api.Line{Bytes: full + "x"}, "", dirty},
		{"many too many", api.Line{Bytes: full}, strings.Repeat(full, 50), dirty},
		{"bytes count, not runes", api.Line{}, strings.Repeat("日", api.MaxQueue/3+1), dirty},
	} {
		if q := Wait(c.q, c.b); q != c.want {
			t.Errorf("%s: %.40q, %t", c.what, q.Bytes, q.Dirty)
		}
	}
}

func TestDrain(t *testing.T) {
	line := func(b string) api.Line { return api.Line{Bytes: b} }
	long := strings.Repeat("ab", api.MaxQueue)
	for _, c := range []struct {
		what  string
		q     api.Line
		n     int
		taken string
		left  api.Line
	}{
		{"none", line("abc"), 0, "", line("abc")},
		{"below none", line("abc"), -1, "", line("abc")},
		{"far below", line("abc"), math.MinInt, "", line("abc")},
		{"one", line("abc"), 1, "a", line("bc")},
		{"all but one", line("abc"), 2, "ab", line("c")},
		{"all", line("abc"), 3, "abc", line("")},
		{"more than all", line("abc"), 4, "abc", line("")},
		{"far more", line("abc"), math.MaxInt, "abc", line("")},
		{"of nothing none", line(""), 0, "", line("")},
		{"of nothing one", line(""), 1, "", line("")},
		{"of nothing less than none", line(""), -1, "", line("")},
		{"a part of a rune", line("日"), 1, "\xe6", line("\x97\xa5")},
		{"dirty", api.Line{Dirty: true}, 5, "", api.Line{Dirty: true}},
		{"dirty with bytes", api.Line{Bytes: "abc", Dirty: true}, 1, "a", api.Line{Bytes: "bc", Dirty: true}},
		{"dirty with bytes, all", api.Line{Bytes: "abc", Dirty: true}, 3, "abc", api.Line{Dirty: true}},
		{"dirty with bytes, none", api.Line{Bytes: "abc", Dirty: true}, -3, "", api.Line{Bytes: "abc", Dirty: true}},
		{"of more than may wait", line(long), len(long) - 1, long[:len(long)-1], line("b")},
	} {
		taken, left := Drain(c.q, c.n)
		if taken != c.taken || left != c.left {
			t.Errorf("%s: %.40q, %.40q, %t", c.what, taken, left.Bytes, left.Dirty)
		}
	}
}

// What was taken, one piece behind the other, and what is left are what waited.
func TestDrainPieces(t *testing.T) {
	b := strings.Repeat("日本\x1b[1m", 20)
	for n := 1; n < len(b)+2; n++ {
		q, taken, times := Wait(Wait(api.Line{}, b[:n/2]), b[n/2:]), "", 0
		for q.Bytes != "" {
			var piece string
			piece, q = Drain(q, n)
			taken += piece
			times++
			if len(piece) != min(n, len(b)-(times-1)*n) || taken+q.Bytes != b {
				t.Fatalf("%d at a time, %d times: %q, %q", n, times, piece, q.Bytes)
			}
		}
	}
}
