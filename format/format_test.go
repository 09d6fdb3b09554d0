package format

import (
	"fmt"
	"strings"
	"testing"

	"trellis/api"
	"trellis/text"
)

// things: some items, two of which have the same name.
func things() []api.Item {
	return []api.Item{
		{Name: "a", Value: "xy"}, {Name: "nought", Value: "0"}, {Name: "none", Value: ""}, {Name: "a", Value: "z"},
		{Name: "wide", Value: "日本語"}, {Name: "some_name", Value: "#{a}"}, {Name: "_", Value: "line"}, {Name: "noughts", Value: "00"},
		{Name: "A", Value: "great"}, {Name: "", Value: "unnamed"}, {Name: "blank", Value: " "}, {Name: "marks", Value: "\u0301a\u0301\u0301b\u0301"},
		{Name: "none", Value: "behind"}, {Name: "bytes", Value: "\xff\x00日\xe6\x97"}, {Name: "a,", Value: "comma"}, {Name: "ends", Value: ",}"}, {Name: "ä", Value: "umlaut"},
	}
}

// makes: is that what the text makes with those items?
func makes(t *testing.T, s string, items []api.Item, want string) {
	t.Helper()
	if out, at, e := Expand(s, items); out != want || at != 0 || e != api.OK {
		t.Errorf("Expand(%.60q) = %.60q, %d, %d; want %.60q", s, out, at, e, want)
	}
}

// refuses: is that the error, told there, and nothing else?
func refuses(t *testing.T, s string, items []api.Item, wantAt int, want api.Errno) {
	t.Helper()
	if out, at, e := Expand(s, items); out != "" || at != wantAt || e != want {
		t.Errorf("Expand(%.60q) = %.60q, %d, %d; want %d, %d", s, out, at, e, wantAt, want)
	}
}

// P16.1

func TestExpand(t *testing.T) {
	for s, want := range map[string]string{
		// bytes stand for themselves
		"": "", "abc": "abc", " ": " ", "日本": "日本", "\xff\x00\n\x1b": "\xff\x00\n\x1b", ",": ",", "}": "}", "{": "{", "{a}": "{a}", "a,b}c:d=e?f": "a,b}c:d=e?f", "$(x) %d \\": "$(x) %d \\",
		// # as well, unless one more stands behind it, or a brace
		"#": "#", "##": "#", "###": "##", "####": "##", "#####": "###", "a#": "a#", "#a": "#a", "# #": "# #", "#}": "#}", "#,": "#,", "#[a]": "#[a]", "#=1:a": "#=1:a", "#?a,b,c": "#?a,b,c", "# {a}": "# {a}",
		"##{a}": "#{a}", "###{a}": "#xy", "####{a}": "##{a}", "##{": "#{", "##{A": "#{A", "#a#{a}#a": "#axy#a", "#{a}#": "xy#", "#{a}##": "xy#", "##a##": "#a#",
		// values
		"#{a}": "xy", "<#{a}>": "<xy>", "#{a}#{a}": "xyxy", "#{nought}": "0", "#{none}": "", "#{b}": "", "<#{b}>": "<>", "#{aa}": "", "#{_}": "line", "#{__}": "", "#{some_name}": "#{a}", "#{some_name}}": "#{a}}", "#{wide}": "日本語", "#{ends}": ",}", "#{bytes}": "\xff\x00日\xe6\x97", "#{z}": "", "#{a_}": "", "#{marks}": "\u0301a\u0301\u0301b\u0301", "#{a}}": "xy}", "{#{a}}": "{xy}", "#{a},": "xy,",
		// cut
		"#{=1:a}": "x", "#{=2:a}": "xy", "#{=3:a}": "xy", "#{=0:a}": "", "#{=00:a}": "", "#{=000:a}": "", "#{=01:a}": "x", "#{=001:a}": "x", "#{=010:a}": "xy", "#{=999:a}": "xy", "#{=12:a}b": "xyb", "#{=1:a}#{=1:a}": "xx", "#{=9:b}": "", "#{=9:none}": "", "#{=1:some_name}": "#", "#{=100:some_name}": "#{a}",
		"#{=0:wide}": "", "#{=1:wide}": "", "#{=2:wide}": "日", "#{=3:wide}": "日", "#{=4:wide}": "日本", "#{=5:wide}": "日本", "#{=6:wide}": "日本語",
		"#{=0:marks}": "\u0301", "#{=1:marks}": "\u0301a\u0301\u0301", "#{=2:marks}": "\u0301a\u0301\u0301b\u0301", "#{=0:bytes}": "", "#{=1:bytes}": "\xff\x00", "#{=2:bytes}": "\xff\x00", "#{=3:bytes}": "\xff\x00日", "#{=4:bytes}": "\xff\x00日\xe6", "#{=5:bytes}": "\xff\x00日\xe6\x97",
		// choice
		"#{?a,then,else}": "then", "#{?nought,then,else}": "else", "#{?none,then,else}": "else", "#{?b,then,else}": "else", "#{?noughts,then,else}": "then", "#{?blank,then,else}": "then", "#{?wide,then,else}": "then", "#{?some_name,then,else}": "then", "#{?bytes,then,else}": "then", "#{?ends,then,else}": "then",
		"#{?a,,}": "", "#{?b,,}": "", "#{?a,then,}": "then", "#{?b,then,}": "", "#{?a,,else}": "", "#{?b,,else}": "else", "<#{?a,b,c}>": "<b>", "#{?a,b,c}#{?b,b,c}": "bc",
		// a comma in else, braces that open, what stands alone
		"#{?b,b,c,d}": "c,d", "#{?a,b,c,d}": "b", "#{?b,,,}": ",", "#{?b,,,,}": ",,", "#{?a,{,c}": "{", "#{?b,{,{}": "{", "#{?b,b,{c}}": "{c}", "#{?a,b,{c}}": "b}", "#{?a, b , c }": " b ", "#{?b, b , c }": " c ", "#{?a,日,本}": "日", "#{?b,日,本}": "本", "#{?a,\xff,}": "\xff", "#{?a,=?:,}": "=?:", "#{?b,=?:,=?:}": "=?:",
		// # within
		"#{?a,#,c}": "#", "#{?b,#,#}": "#", "#{?a,##,c}": "#", "#{?a,###,c}": "##", "#{?b,##,##}": "#", "#{?b,b,###}": "##", "#{?a,##{,c}": "#{", "#{?b,b,##{c}": "#{c", "#{?b,b,##{c}}": "#{c}", "#{?a,#b,#c}": "#b", "#{?b,#b,#c}": "#c",
		// items within
		"#{?a,#{a},}": "xy", "#{?b,,#{a}}": "xy", "#{?a,<#{a}>,#{b}}": "<xy>", "#{?a,#{=1:a},#{=2:a}}": "x", "#{?b,#{=1:a},#{=2:a}}": "xy", "#{?a,#{a}#{a},}": "xyxy", "#{?a,#{a},#{a}}#{a}": "xyxy", "#{?a,#{ends},c}": ",}", "#{?b,b,#{ends}}": ",}",
		"#{?a,#{?b,1,2},3}": "2", "#{?a,#{?a,1,2},3}": "1", "#{?b,#{?b,1,2},3}": "3", "#{?b,1,#{?a,2,3}}": "2", "#{?b,1,#{?b,2,3}}": "3", "#{?a,1,#{?a,2,3}}": "1", "#{?a,#{?b,1,2,3},4}": "2,3", "#{?b,#{?b,1,2},#{?b,3,4}},5}": "4,5}", "#{?a,(#{?a,[#{?b,,#{a}}],}),}": "([xy])",
	} {
		makes(t, s, things(), want)
	}
}

// Of each byte, alone and within an item, but for # and what ends that item.
func TestExpandBytes(t *testing.T) {
	for i := range 256 {
		c := string([]byte{byte(i)})
		makes(t, c, nil, c)
		if c != "#" && c != "{" {
			makes(t, "#"+c+"a", nil, "#"+c+"a")
		}
		if c != "," && c != "}" {
			makes(t, "#{?a,"+c+"b,}", things(), c+"b")
		}
		if c != "}" {
			makes(t, "#{?b,,"+c+"b}", things(), c+"b")
		}
		switch {
		case c >= "a" && c <= "z" && i < 128 || c == "_":
			makes(t, "#{"+c+"}", []api.Item{{Name: c, Value: "v"}}, "v")
			makes(t, "#{?a"+c+",b,c}", []api.Item{{Name: "a" + c, Value: "v"}}, "b")
			makes(t, "#{=1:"+c+"a}", []api.Item{{Name: c + "a", Value: "v"}}, "v")
		default:
			refuses(t, "#{"+c, []api.Item{{Name: c, Value: "v"}}, 2+strings.Count("=?", c), api.ErrText)
			refuses(t, "#{?"+c+",b,c}", nil, 3, api.ErrText)
			refuses(t, "#{=1:"+c+"}", nil, 5, api.ErrText)
			if c != "," {
				refuses(t, "#{?a"+c+",b,c}", nil, 4, api.ErrText)
			}
			if c != "}" {
				refuses(t, "#{a"+c+"}", nil, 3, api.ErrText)
				refuses(t, "#{=1:a"+c+"}", nil, 6, api.ErrText)
			}
		}
		if i < '0' || i > '9' {
			refuses(t, "#{="+c+":a}", nil, 3, api.ErrText)
			if c != ":" {
				refuses(t, "#{=1"+c+":a}", nil, 4, api.ErrText)
			}
		}
	}
}

func TestExpandText(t *testing.T) {
	for s, at := range map[string]int{
		// names
		"#{": 2, "#{}": 2, "#{ a}": 2, "#{A}": 2, "#{1}": 2, "#{#{a}}": 2, "#{,": 2, "#{:": 2, "#{日}": 2, "#{-a}": 2, "#{{a}}": 2, "#{##}": 2, "x#{": 3, "##{a}#{": 7, "###{": 4, "#{a}#{A}": 6, "日#{A}": 5, "#{`}": 2, "#{\x00}": 2,
		"#{?": 3, "#{?}": 3, "#{?,": 3, "#{?,b,c}": 3, "#{?A,b,c}": 3, "#{?1,b,c}": 3, "#{?#{a},b,c}": 3, "#{? a,b,c}": 3, "#{?=1:a,b,c}": 3, "#{??a,b,c}": 3,
		"#{=1:": 5, "#{=1:}": 5, "#{=1:A}": 5, "#{=12:}": 6, "#{=123:}": 7, "#{=1:1}": 5, "#{=1: a}": 5, "#{=1::a}": 5, "#{=1:#{a}}": 5, "#{=1:?a,b,c}": 5, "#{=1:=1:a}": 5,
		// digits
		"#{=": 3, "#{=}": 3, "#{=a}": 3, "#{=:a}": 3, "#{=-1:a}": 3, "#{=+1:a}": 3, "#{= 1:a}": 3, "#{==1:a}": 3, "#{=x1:a}": 3, "#{=#{a}:a}": 3, "#{=/:a}": 3,
		// colons
		"#{=1": 4, "#{=1}": 4, "#{=1a}": 4, "#{=12a}": 5, "#{=123a}": 6, "#{=1234:a}": 6, "#{=0000:a}": 6, "#{=123": 6, "#{=12345:a}": 6, "#{=1,a}": 4, "#{=1 :a}": 4, "#{=1;a}": 4, "#{=1.5:a}": 4, "#{=12": 5,
		// braces
		"#{a": 3, "#{abc": 5, "#{a ": 3, "#{aA}": 3, "#{a1}": 3, "#{a:b}": 3, "#{a,b,c}": 3, "#{a=1}": 3, "#{a?b}": 3, "#{a#{b}}": 3, "#{a##}": 3, "#{a]": 3, "#{a-b}": 3, "#{a_B}": 4, "#{a日}": 3, "#{a{": 3, "#{=1:a": 6, "#{=1:ab": 7, "#{=1:a ": 6, "#{=1:aA}": 6, "#{=1:a,b}": 6, "#{=123:a": 8, "#{=1:a:b}": 6, "#{a}#{a": 7,
		"#{?a,b,c": 8, "#{?a,,": 6, "#{?a,b,": 7, "#{?b,b,c,d": 10, "#{?a,b,#": 8, "#{?a,b,##": 9, "#{?a,b,{": 8, "#{?a,b,##{": 10, "#{?a,b,#{a}": 11, "#{?a,b,#{?a,b,c}": 16, "#{?b,b,c": 8, "#{?a,b,日": 10,
		// commas
		"#{?a": 4, "#{?a}": 4, "#{?abc": 6, "#{?a b,c,d}": 4, "#{?a:b,c}": 4, "#{?aA,b,c}": 4, "#{?a1,b,c}": 4, "#{?a#{b},c,d}": 4, "#{?a=b,c,d}": 4, "#{?a?b,c,d}": 4,
		"#{?a,": 5, "#{?a,}": 5, "#{?a,b": 6, "#{?a,b}": 6, "#{?b,b}": 6, "#{?a,b},c}": 6, "#{?a,{b},c}": 7, "#{?a,#": 6, "#{?a,#}": 6, "#{?a,##": 7, "#{?a,##}": 7, "#{?a,##{b},c}": 9, "#{?a,#{a}": 9, "#{?a,#{a}}": 9, "#{?a,#{?a,b,c}}": 14, "#{?a,#{?a,b,c}": 14, "#{?a,日}": 8,
		// both parts must be right, and the first fault is told
		"#{?a,b,#{}}": 9, "#{?b,#{},c}": 7, "#{?a,b,#{=a}}": 10, "#{?b,#{=1a},c}": 9, "#{?a,b,#{?a}}": 11, "#{?b,#{?a},c}": 9, "#{?a,#{?b,#{A},c},d}": 12, "#{?a,b,#{?a,b,#{}}}": 16, "#{A}#{=a}": 2, "#{?a,#{A},#{B}": 7, "#{}#": 2, "#{a}}#{": 7, "#{?b,#{": 7, "#{?b,#{a": 8,
	} {
		refuses(t, s, things(), at, api.ErrText)
		refuses(t, s, nil, at, api.ErrText)
		refuses(t, "日##,}"+s, things(), at+len("日##,}"), api.ErrText)
		refuses(t, s[:at], things(), at, api.ErrText)
	}
}

// The first item of a name counts; names are what they are, byte by byte.
func TestExpandItems(t *testing.T) {
	makes(t, "#{a}", nil, "")
	makes(t, "#{a}", []api.Item{}, "")
	makes(t, "#{a}", []api.Item{{}, {Value: "no"}, {Name: "b", Value: "no"}, {Name: "A", Value: "no"}, {Name: "aa", Value: "no"}, {Name: "a ", Value: "no"}, {Name: "a", Value: "yes"}, {Name: "a", Value: "no"}}, "yes")
	makes(t, "#{a}#{?a,1,2}#{=1:a}", []api.Item{{Name: "a"}, {Name: "a", Value: "no"}}, "2")
	makes(t, "#{a}#{?a,1,2}#{=1:a}", []api.Item{{Name: "a", Value: "0"}, {Name: "a", Value: "no"}}, "020")
	var items []api.Item
	all, want := "", ""
	for i := range api.MaxBinds {
		name := strings.Repeat("n", i+1)
		items = append(items, api.Item{Name: name, Value: fmt.Sprint(i, ";")})
		all, want = all+"#{"+name+"}", want+fmt.Sprint(i, ";")
	}
	makes(t, all, items, want)
	long := strings.Repeat("n", api.MaxText-3)
	makes(t, "#{"+long+"}", []api.Item{{Name: long, Value: "v"}}, "v")
	makes(t, "#{"+long+"}", []api.Item{{Name: long + "n", Value: "v"}}, "")
	makes(t, "a", []api.Item{{Name: long + long, Value: "v"}}, "a")
}

// chain: n choices within one another, in each of which the next one stands in then, or in else; and in the innermost one what.
func chain(n int, what string, inThen bool) string {
	if inThen {
		return strings.Repeat("#{?a,", n) + what + strings.Repeat(",}", n)
	}
	return strings.Repeat("#{?b,,", n) + what + strings.Repeat("}", n)
}

func TestExpandDeep(t *testing.T) {
	for _, inThen := range []bool{true, false} {
		last := strings.Index(chain(8, "@", inThen), "@")
		for n := range 9 {
			makes(t, chain(n, "x#", inThen), things(), "x#")
			makes(t, chain(n, "##{x", inThen), things(), "#{x")
		}
		for _, item := range []string{"#{a}", "#{=2:a}", "#{?a,xy,}", "#{?b,,#}##"} {
			made, _, _ := Expand(item, things())
			for n := range 8 {
				makes(t, chain(n, item, inThen), things(), made)
				makes(t, chain(n, item+"-"+item, inThen)+item, things(), made+"-"+made+made)
			}
			refuses(t, chain(8, item, inThen), things(), last, api.ErrText)
			refuses(t, chain(8, "ab"+item, inThen), things(), last+2, api.ErrText)
			refuses(t, chain(8, "##"+item, inThen), things(), last+2, api.ErrText)
			refuses(t, chain(8, item, !inThen), []api.Item{{Name: "b", Value: "1"}}, strings.Index(chain(8, "@", !inThen), "@"), api.ErrText)
			refuses(t, chain(9, item, inThen), things(), last, api.ErrText)
			refuses(t, chain(500, item, inThen), things(), last, api.ErrText)
		}
		// what is wrong with the ninth isn't told, and with the eighth it is
		seventh := strings.Index(chain(7, "@", inThen), "@")
		for wrong, at := range map[string]int{"#{A}": 2, "#{=x": 3, "#{?#": 3, "#{?a}": 4, "#{aB": 3} {
			refuses(t, chain(8, wrong, inThen), things(), last, api.ErrText)
			refuses(t, chain(7, wrong, inThen), things(), seventh+at, api.ErrText)
		}
		// those that are closed don't count
		eight := chain(7, "#{a}", inThen)
		makes(t, strings.Repeat(eight, 30), things(), strings.Repeat("xy", 30))
		makes(t, "#{?a,"+strings.Repeat(chain(6, "#{a}", inThen), 30)+","+chain(6, "#{a}", inThen)+"}"+eight, things(), strings.Repeat("xy", 31))
		makes(t, "#{?a,"+strings.Repeat("#{a}", 30)+",}"+eight, things(), strings.Repeat("xy", 31))
		refuses(t, strings.Repeat(eight, 30)+chain(8, "#{a}", inThen), things(), 30*len(eight)+last, api.ErrText)
		refuses(t, strings.Repeat("#{?a,", 8), things(), 5*8, api.ErrText)
		refuses(t, strings.Repeat("#{?a,", 9), things(), 5*8, api.ErrText)
		refuses(t, strings.Repeat("#{?a,", api.MaxText/5), things(), 5*8, api.ErrText)
		refuses(t, strings.Repeat("#{?a,,", api.MaxText/6), things(), 6*8, api.ErrText)
	}
	// the part that isn't taken counts, too
	refuses(t, "#{?a,,"+chain(7, "#{a}", true)+"}", things(), strings.Index("#{?a,,"+chain(7, "@", true), "@"), api.ErrText)
	refuses(t, "#{?b,"+chain(7, "#{a}", false)+",}", things(), strings.Index("#{?b,"+chain(7, "@", false), "@"), api.ErrText)
	makes(t, "#{?a,,"+chain(6, "#{a}", true)+"}", things(), "")
	makes(t, "#{?b,"+chain(6, "#{a}", false)+",}", things(), "")
}

func TestExpandMany(t *testing.T) {
	full := strings.Repeat("a", api.MaxText)
	makes(t, full, nil, full)
	makes(t, strings.Repeat("##", api.MaxText/2), nil, strings.Repeat("#", api.MaxText/2))
	makes(t, strings.Repeat("#", api.MaxText), nil, strings.Repeat("#", api.MaxText/2))
	refuses(t, full+"a", nil, 0, api.ErrMany)
	refuses(t, strings.Repeat("日", 1+api.MaxText/3), nil, 0, api.ErrMany)
	refuses(t, strings.Repeat("#{b}", 1+api.MaxText/4), nil, 0, api.ErrMany)
	refuses(t, strings.Repeat("\u0301", 1<<20), nil, 0, api.ErrMany)
	items := make([]api.Item, api.MaxBinds)
	makes(t, "a", items, "a")
	refuses(t, "a", append(items, api.Item{}), 0, api.ErrMany)
	refuses(t, "", make([]api.Item, 1<<16), 0, api.ErrMany)
	for i := range items {
		some := make([]api.Item, api.MaxBinds)
		some[i].Value = full
		makes(t, "a", some, "a")
		some[i].Value += "a"
		refuses(t, "a", some, 0, api.ErrMany)
		refuses(t, "#{", some, 0, api.ErrMany)
	}
	// ahead of what isn't written so
	refuses(t, "#{"+full, nil, 0, api.ErrMany)
	refuses(t, "#{", append(items, api.Item{}), 0, api.ErrMany)
	// one that a name tells of only behind another of that name
	refuses(t, "#{a}", []api.Item{{Name: "a", Value: "b"}, {Name: "a", Value: full + "a"}}, 0, api.ErrMany)
	// the names may be longer
	makes(t, "a", []api.Item{{Name: full + full, Value: full}}, "a")
}

func TestExpandFull(t *testing.T) {
	full := strings.Repeat("v", api.MaxText)
	half := full[:api.MaxText/2]
	items := []api.Item{{Name: "a", Value: full}, {Name: "h", Value: half}, {Name: "one", Value: "1"}, {Name: "flat", Value: strings.Repeat("\u0301", api.MaxText/4)}}
	makes(t, "#{a}", items, full)
	makes(t, "#{a}#{b}", items, full)
	makes(t, "#{h}#{h}", items, full)
	makes(t, "#{=0:flat}#{=0:flat}", items, strings.Repeat("\u0301", api.MaxText/2))
	makes(t, "#{=999:a}", items, full[:999])
	makes(t, "#{=999:a}#{=999:a}#{=999:a}#{=999:a}vvvv", items, full)
	makes(t, full[:api.MaxText-len("##")]+"##", items, full[:api.MaxText-2]+"#")
	makes(t, "#{?one,#{h},}#{?b,,#{h}}", items, full)
	for _, s := range []string{
		"#{a}v", "v#{a}", "#{a}#", "#{a}##", "##{}#{a}", "#{h}#{h}v", "#{h}v#{h}", "#{a}#{one}", "#{a}#{a}", strings.Repeat("#{a}", api.MaxText/4),
		"#{?one,#{a},}v", "#{?b,,#{a}v}", "#{?one,#{?one,v#{a},},}", "#{h}#{?one,#{h},}#{?b,,v}", "#{=999:a}#{=999:a}#{=999:a}#{=999:a}vvvvv", "#{=0:flat}#{=0:flat}v",
	} {
		refuses(t, s, items, 0, api.ErrFull)
	}
	// what isn't taken doesn't count
	makes(t, "#{?one,v,#{a}#{a}}", items, "v")
	makes(t, "#{?b,#{a}#{a},v}", items, "v")
	makes(t, "#{?one,v,#{?one,#{a}#{a},}}", items, "v")
	makes(t, "#{?b,#{a}v,#{a}}", items, full)
	refuses(t, "#{?b,v,#{a}#{a}}", items, 0, api.ErrFull)
	// what isn't written so is told ahead, even behind it
	refuses(t, "#{a}#{a}#{", items, len("#{a}#{a}#{"), api.ErrText)
	refuses(t, "#{a}v#{?one,", items, len("#{a}v#{?one,"), api.ErrText)
	refuses(t, "#{?one,#{a}#{a}}", items, len("#{?one,#{a}#{a}"), api.ErrText)
}

// P16.2

func TestState(t *testing.T) {
	for _, c := range []struct {
		left, right string
		n           int
		want        string
	}{
		{"left", "right", 7, "leright"}, {"left", "right", 9, "leftright"}, {"left", "right", 10, "left right"}, {"left", "right", 12, "left   right"}, {"left", "right", 8, "lefright"}, {"left", "right", 6, "lright"}, {"left", "right", 5, "right"}, {"left", "right", 4, "righ"}, {"left", "right", 1, "r"},
		{"a", "b", 1, "b"}, {"a", "b", 2, "ab"}, {"a", "b", 3, "a b"}, {"a", "b", 4, "a  b"}, {"", "", 1, " "}, {"", "", 3, "   "}, {"a", "", 1, "a"}, {"a", "", 3, "a  "}, {"ab", "", 1, "a"}, {"", "b", 1, "b"}, {"", "b", 3, "  b"}, {"", "bc", 1, "b"},
		// wide runes, of which no half is left
		{"", "日本", 4, "日本"}, {"", "日本", 5, " 日本"}, {"", "日本", 3, " 日"}, {"", "日本", 2, "日"}, {"", "日本", 1, " "}, {"a", "日本", 1, "a"}, {"abc", "日本", 3, "a日"}, {"abc", "日", 1, "a"}, {"日", "本", 1, " "}, {"日", "a", 2, " a"}, {"日", "a", 3, "日a"}, {"日", "a", 4, "日 a"}, {"日本", "a", 4, "日 a"}, {"日本", "a", 5, "日本a"}, {"a日", "本b", 3, "本b"}, {"a日", "本b", 2, "本"}, {"a日", "本b", 5, "a 本b"}, {"a日", "本b", 6, "a日本b"}, {"x", "a日", 2, "xa"}, {"日", "a日", 2, " a"},
		// what takes no cell goes, each wrong byte is U+FFFD
		{"a\u0301b", "c\u0301\u0301", 4, "ab c"}, {"\u0301", "\u200b", 2, "  "}, {"a\n", "\tb\r", 3, "a b"}, {"\x1b[1m", "\x00\x7f", 3, "[1m"}, {"\xff", "\xe6\x97", 4, "\ufffd \ufffd\ufffd"}, {"\xe6\x97\xa5", "\xa5", 3, "日\ufffd"}, {"\xed\xa0\x80", "a", 4, "\ufffd\ufffd\ufffda"}, {"\u0301a", "", 1, "a"}, {"\ufeff日\ufe0f", "", 2, "日"},
		// no formats
		{"#{a}", "##", 6, "#{a}##"},
		{strings.Repeat("日", 200), "", 120, strings.Repeat("日", 60)}, {strings.Repeat("日", 200), "a", 120, strings.Repeat("日", 59) + " a"}, {"a", strings.Repeat("日", 200), 120, strings.Repeat("日", 60)}, {"a", strings.Repeat("日", 200), 119, "a" + strings.Repeat("日", 59)}, {"a", "b", 120, "a" + strings.Repeat(" ", 118) + "b"},
	} {
		if got, e := State(c.left, c.right, c.n); got != c.want || e != api.OK {
			t.Errorf("State(%.20q, %.20q, %d) = %q, %d; want %q", c.left, c.right, c.n, got, e, c.want)
		}
	}
}

// Whatever there is, it is a line of n cells.
func TestStateWide(t *testing.T) {
	for _, left := range []string{"", "a", "日", strings.Repeat("x", api.MaxText), strings.Repeat("\xff", api.MaxText), strings.Repeat("日", api.MaxText/3), strings.Repeat("\n", api.MaxText), strings.Repeat("a日", 30)} {
		for _, right := range []string{"", "b", "本", "a本", strings.Repeat("y", 119), strings.Repeat("z", api.MaxText), strings.Repeat("本", api.MaxText/3), strings.Repeat("\u0301", api.MaxText/2), strings.Repeat("\xa0", api.MaxText)} {
			for n := 1; n <= api.MaxWide; n++ {
				got, e := State(left, right, n)
				if e != api.OK || text.Wide(got) != n || text.Clean(got) != got {
					t.Errorf("State(%.20q, %.20q, %d) = %q, %d", left, right, n, got, e)
				}
			}
		}
	}
}
