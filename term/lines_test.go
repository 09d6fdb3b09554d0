package term

import (
	"slices"
	"strings"
	"testing"

	"trellis/api"
)

// P11.4

func TestLines(t *testing.T) {
	blanks := with(base(), func(x *api.Term) {
		x.History = [][]api.Cell{rowOf("  a b  ", red), rowOf("   ", green), rowOf("日 ", red), rowOf("\u00a0", red)}
		copy(x.Main.G.Cells, slices.Concat(rowOf(" 日 ", red), rowOf("    ", green)))
	})
	for _, c := range []struct {
		x    api.Term
		want []string
	}{
		{base(), []string{"first", "第二", "ab日", "日cd", "efgh", "ijkl"}},
		{alt(base()), []string{"first", "第二", "ab日", "日cd", "efgh", "ijkl"}},
		{with(base(), func(x *api.Term) { x.History = nil }), []string{"ab日", "日cd", "efgh", "ijkl"}},
		{blanks, []string{"  a b", "", "日", "\u00a0", " 日", "", "efgh", "ijkl"}},
		{fresh(t, 3, 2), []string{"", ""}},
		{after(t, fresh(t, 3, 2), "\n\n\n"), []string{"", "", "", ""}},
		{after(t, fresh(t, 2, 1), strings.Join(names("", 10, 99), "\r\n")), names("", 48, 99)},
	} {
		got, e := Lines(c.x)
		if e != api.OK || !slices.Equal(got, c.want) {
			t.Errorf("%q, %d, want %q", got, e, c.want)
		}
	}
}

func TestFind(t *testing.T) {
	x := after(t, fresh(t, 6, 3), "one\r\ntwo\r\n\r\none 日\r\n二one\r\ntwo")
	const last = 5
	for _, c := range []struct {
		what string
		from int
		want int
		e    api.Errno
	}{
		{"one", last, 4, api.OK}, {"one", 4, 4, api.OK}, {"one", 3, 3, api.OK}, {"one", 2, 0, api.OK}, {"one", 1, 0, api.OK}, {"one", 0, 0, api.OK}, {"one", 6, 4, api.OK}, {"one", most, 4, api.OK},
		{"one", -1, 0, api.ErrNone}, {"one", -2, 0, api.ErrNone}, {"one", lowest, 0, api.ErrNone},
		{"two", last, 5, api.OK}, {"two", 99, 5, api.OK}, {"two", 4, 1, api.OK}, {"two", 1, 1, api.OK}, {"two", 0, 0, api.ErrNone},
		{"日", last, 3, api.OK}, {"二o", last, 4, api.OK}, {"e 日", last, 3, api.OK}, {" ", last, 3, api.OK}, {"one 日", last, 3, api.OK}, {"o", 4, 4, api.OK},
		{"three", last, 0, api.ErrNone}, {"One", last, 0, api.ErrNone}, {"one ", 2, 0, api.ErrNone}, {"two ", last, 0, api.ErrNone}, {"twoone", last, 0, api.ErrNone}, {"two\n", last, 0, api.ErrNone}, {"日\x00", last, 0, api.ErrNone},
		{"", last, 0, api.ErrText}, {"", -1, 0, api.ErrText}, {"", most, 0, api.ErrText},
		{strings.Repeat("x", api.MaxText), last, 0, api.ErrNone}, {strings.Repeat("x", api.MaxText+1), last, 0, api.ErrText}, {strings.Repeat("日", api.MaxText/3+1), -1, 0, api.ErrText},
	} {
		for _, x := range []api.Term{x, after(t, x, "\x1b[?1049hthree\x1b[H")} {
			if got, e := Find(x, c.what, c.from); got != c.want || e != c.e {
				t.Errorf("%.9q from %d: %d, %d, want %d, %d", c.what, c.from, got, e, c.want, c.e)
			}
		}
	}
	if got, e := Find(base(), "第", 1); got != 1 || e != api.OK {
		t.Errorf("in History: %d, %d", got, e)
	}
}
