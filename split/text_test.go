package split

import (
	"fmt"
	"strings"
	"testing"

	"trellis/api"
)

// P13.5

// pane: a leaf.
func pane(n, size int) api.Split { return api.Split{Pane: n, Size: size} }

// printed: splits and how they are written.
func printed() map[string]api.Split {
	nest := func(way, size int, kids ...api.Split) api.Split { return api.Split{Way: way, Size: size, Kids: kids} }
	return map[string]api.Split{
		"1":           pane(1, 1),
		"9":           pane(9, 1),
		"10":          pane(10, 1),
		"9999":        pane(9999, 1),
		"1*2":         pane(1, 2),
		"1*10":        pane(1, 10),
		"123*456":     pane(123, 456),
		"9999*9999":   pane(9999, 9999),
		"{1,2}":       nest(api.Row, 1, pane(1, 1), pane(2, 1)),
		"[1,2]":       nest(api.Column, 1, pane(1, 1), pane(2, 1)),
		"{1,2}*2":     nest(api.Row, 2, pane(1, 1), pane(2, 1)),
		"[1,2]*9999":  nest(api.Column, 9999, pane(1, 1), pane(2, 1)),
		"{1*3,2}":     nest(api.Row, 1, pane(1, 3), pane(2, 1)),
		"[2,1*11]*12": nest(api.Column, 12, pane(2, 1), pane(1, 11)),
		"{1,[2,3]*2}": nest(api.Row, 1, pane(1, 1), nest(api.Column, 2, pane(2, 1), pane(3, 1))),
		"[{1,2},3]":   nest(api.Column, 1, nest(api.Row, 1, pane(1, 1), pane(2, 1)), pane(3, 1)),
		"{[1,{2,3*4}*5]*6,7}*8": nest(api.Row, 8,
			nest(api.Column, 6, pane(1, 1), nest(api.Row, 5, pane(2, 1), pane(3, 4))), pane(7, 1)),
		"[1,2,3,4,5,6,7,8,9,10,11,12]": nest(api.Column, 1, pane(1, 1), pane(2, 1), pane(3, 1), pane(4, 1), pane(5, 1), pane(6, 1), pane(7, 1), pane(8, 1), pane(9, 1), pane(10, 1), pane(11, 1), pane(12, 1)),
	}
}

func TestPrint(t *testing.T) {
	for want, x := range printed() {
		if got, e := Print(x); got != want || e != api.OK {
			t.Errorf("Print of %s = %q, %d; want %q", show(x), got, e, want)
		}
	}
}

func TestParse(t *testing.T) {
	for text, want := range printed() {
		got, at, e := Parse(text)
		is(t, fmt.Sprintf("Parse(%q)", text), got, e, want)
		if at != 0 {
			t.Errorf("Parse(%q): at %d", text, at)
		}
	}
}

// refuses: is that the error, told there, and nothing else?
func refuses(t *testing.T, text string, at int, e api.Errno) {
	t.Helper()
	got, gotAt, gotE := Parse(text)
	no(t, fmt.Sprintf("Parse(%.50q)", text), got, gotE, e)
	if gotAt != at {
		t.Errorf("Parse(%.50q): at %d, want %d", text, gotAt, at)
	}
}

func TestParseText(t *testing.T) {
	for text, at := range map[string]int{
		// no part where one should stand
		"": 0, " ": 0, "x": 0, ",": 0, "*": 0, "*2": 0, "}": 0, "]": 0, "-1": 0, "+1": 0, "日": 0, "\x00": 0, "\xff": 0, "/": 0, ":": 0, "a1": 0, " 1": 0,
		"{": 1, "[": 1, "{}": 1, "[]": 1, "{,1}": 1, "{,": 1, "{*2}": 1, "{x": 1, "{ 1,2}": 1, "{]": 1, "{[": 2, "{[}": 2, "{1,": 3, "{1,}": 3, "{1,,2}": 3, "{1,*2}": 3, "{1,x}": 3, "{1, 2}": 3, "{1,]": 3, "{1,[]}": 4, "{1,[2,]}": 6, "{/": 1, "{:": 1,
		// numbers
		"0": 0, "00": 0, "01": 0, "0*2": 0, "{0,1}": 1, "{1,0}": 3, "{1,01}": 3, "{1,00}": 3, "{1,0001}": 3, "{1,[02,3]}": 4,
		"12345": 4, "10000": 4, "99999": 4, "1234567": 4, "{12345,1}": 5, "{1,12345}": 7, "12340": 4, "{1,10000}": 7, "00000": 0, "01234": 0,
		"1a": 1, "1.": 1, "1 ": 1, "12 3": 2, "1日": 1, "1\x00": 1, "1/": 1, "1:": 1, "123x": 3, "1234x": 4, "{1234x": 5,
		// *
		"1*": 2, "1*1": 2, "1*0": 2, "1*01": 2, "1*00": 2, "1*02": 2, "1**2": 2, "1*x": 2, "1*,": 2, "1* 2": 2, "1 *2": 1, "1*-2": 2, "1*1x": 2, "1*1*1": 2, "1*1,": 2, "1*1}": 2, "1*/": 2, "1*:": 2,
		"12*1": 3, "1234*1": 5, "1234*": 5, "1*12345": 6, "1*10000": 6, "1*99999": 6, "1*2*3": 3, "1*2*": 3, "1*2 ": 3, "1*1234*": 6, "1*2x": 3, "1*12 ": 4, "1*{": 2, "1*[": 2,
		"{1*1,2}": 3, "{1*,2}": 3, "{1*0,2}": 3, "{1,2*1}": 5, "{1,2*}": 5, "{1,2*0}": 5, "{1,2}*1": 6, "{1,2}*0": 6, "{1,2}*": 6, "{1,2}*01": 6, "{1,2}*12345": 10, "{1,2}*2*2": 7, "{1,[2,3]*1}": 9, "{1,[2,3]*}": 9, "{1*12345,2}": 7,
		// brackets that don't fit, or aren't there
		"{1": 2, "[1": 2, "{1,2": 4, "{1,2]": 4, "[1,2}": 4, "{1]": 2, "[1}": 2, "{1,[2,3}": 7, "{1,[2,3}]": 7, "{1,[2,3]": 8, "{1,[2,3]]": 8, "{[1,2},3]": 5, "{1,2*2": 6, "{1,2*23]": 7, "{1,[2,3]*2": 10, "{1,[2,3]*2]": 10, "{1{": 2, "{1[2,3]}": 2, "{1,2{": 4, "{1(": 2, "{1,2)": 4, "{1 ,2}": 2,
		// commas, and something behind the end
		"1,": 1, "1,2": 1, "1*2,3": 3, "{1,2},": 5, "{1,2},3": 5, "{1,2},{3,4}": 5, "{1,2}*2,3": 7, "1}": 1, "1]": 1, "{1,2}}": 5, "{1,2}]": 5, "{1,2}{": 5, "{1,2}3": 5, "{1,2} ": 5, "1\n": 1, "{1,2}\n": 5, "11{": 2, "1[2,3]": 1, "{1 2}": 2, "{1,[2,3]4}": 8, "{[1,2][3,4]}": 6, "{1,2}*22}": 8,
		// the first of two
		"{1,01": 3, "{1,x]": 3, "0]": 0, "{1*1]": 3, "12345*1": 4,
	} {
		refuses(t, text, at, api.ErrText)
	}
}

// chain: n brackets within one another, by turns of both sorts, each but the innermost with a pane ahead of the next, from 1 on; and where the last one opens.
func chain(n int) (text string, last int) {
	ends := ""
	for i := range n {
		last = len(text)
		text += string("{["[i%2]) + fmt.Sprint(i+1) + ","
		ends = string("}]"[i%2]) + ends
	}
	return text + fmt.Sprint(n+1) + ends, last
}

func TestParseBrackets(t *testing.T) {
	for n := 1; n < api.MaxPanes; n++ {
		text, _ := chain(n)
		got, at, e := Parse(text)
		is(t, fmt.Sprintf("Parse(%q)", text), got, e, of(text))
		if at != 0 {
			t.Errorf("Parse(%q): at %d", text, at)
		}
	}
	text, _ := chain(api.MaxPanes)
	refuses(t, text, 0, api.ErrMany)
	text, last := chain(api.MaxPanes + 1)
	refuses(t, text, last, api.ErrText)
	text, _ = chain(100)
	refuses(t, text, last, api.ErrText)
	for _, sort := range []string{"{", "[", "{[", "[{"} {
		open := strings.Repeat(sort, api.MaxPanes)
		refuses(t, open[:api.MaxPanes], api.MaxPanes, api.ErrText)
		refuses(t, open[:api.MaxPanes]+"0", api.MaxPanes, api.ErrText)
		refuses(t, open[:api.MaxPanes+len(sort)-1], api.MaxPanes, api.ErrText)
		refuses(t, strings.Repeat(sort, api.MaxText/len(sort)), api.MaxPanes, api.ErrText)
	}
	twelve, back := strings.Repeat("{", api.MaxPanes), strings.Repeat("}", api.MaxPanes)
	refuses(t, twelve+"1"+back, 0, api.ErrForm)
	refuses(t, "{"+twelve+"1"+back+"}", api.MaxPanes, api.ErrText)
	refuses(t, twelve+"1,{"+back, api.MaxPanes+2, api.ErrText)
	refuses(t, "{1,"+twelve+"1"+back+"}", api.MaxPanes+2, api.ErrText)
	// those that are closed don't count
	refuses(t, twelve+"1"+back[1:]+","+twelve[1:]+"2"+back, 0, api.ErrForm)
	refuses(t, "{"+strings.Repeat("[1],", 50)+"2}", 0, api.ErrForm)
	refuses(t, "{1,"+strings.Repeat("[2],", 50)+"0}", 3+4*50, api.ErrText)
}

func TestParseLong(t *testing.T) {
	digits := strings.Repeat("1", api.MaxText)
	refuses(t, digits, 4, api.ErrText)
	refuses(t, digits+"1", 0, api.ErrMany)
	twice := "{11," + strings.Repeat("1,", (api.MaxText-6)/2) + "1}"
	if len(twice) != api.MaxText {
		t.Fatal(len(twice))
	}
	refuses(t, twice, 0, api.ErrTwice)
	refuses(t, twice[:len(twice)-1], api.MaxText-1, api.ErrText)
	refuses(t, twice[:len(twice)-1]+",", api.MaxText, api.ErrText)
	refuses(t, twice+"}", 0, api.ErrMany)
	refuses(t, twice+"*", 0, api.ErrMany)
	refuses(t, strings.Repeat("x", api.MaxText), 0, api.ErrText)
	refuses(t, strings.Repeat("x", api.MaxText+1), 0, api.ErrMany)
	refuses(t, "{1,1}"+strings.Repeat(" ", api.MaxText-4), 0, api.ErrMany)
	refuses(t, "{1,1}"+strings.Repeat(" ", api.MaxText-5), 5, api.ErrText)
	refuses(t, strings.Repeat("{", 100*api.MaxText), 0, api.ErrMany)
	refuses(t, strings.Repeat("日", api.MaxText/3+1), 0, api.ErrMany)
}

// What Check refuses is told at 0; what is no text of this form goes ahead of it.
func TestParseCheck(t *testing.T) {
	for text, want := range map[string]api.Errno{
		"{1,1}": api.ErrTwice, "{1,[2,1]}": api.ErrTwice, "{1}": api.ErrForm, "[1]": api.ErrForm, "{1*5}*2": api.ErrForm, "{1,{2,3}}": api.ErrForm, "[[1,2],3]": api.ErrForm, "{1,[2]}": api.ErrForm, "{[{1}]}": api.ErrForm,
		"{" + many(13) + "}": api.ErrMany, "{" + many(12) + ",12}": api.ErrTwice, "{" + many(100) + ",1}": api.ErrMany, "{1,1,{2,3}}": api.ErrTwice, "{1,{2,3},1}": api.ErrForm,
	} {
		refuses(t, text, 0, want)
		refuses(t, text+" ", len(text), api.ErrText)
		refuses(t, text[:len(text)-1], len(text)-1, api.ErrText)
	}
}

// misplaced: where a text isn't one of a split, told byte by byte; -1: it is one.
func misplaced(text string) int {
	const part, number, behind, star, size = 0, 1, 2, 3, 4
	state, count := part, 0
	var ends []byte
	for i := range len(text) + 1 {
		c := byte('$') // behind the text
		if i < len(text) {
			c = text[i]
		}
		digit := '0' <= c && c <= '9'
		if state == part && (c == '{' || c == '[') && len(ends) < 12 {
			ends = append(ends, c+2) // both brackets' ends are two behind them
			continue
		}
		if state == part || state == star {
			if !digit || c == '0' {
				return i
			}
			state, count = state+1, 1
			continue
		}
		if (state == number || state == size) && digit && count < 4 {
			count++
			continue
		}
		if state == size && count == 1 && text[i-1] == '1' {
			return i - 1
		}
		last := len(ends) - 1
		switch {
		case c == '*' && (state == number || state == behind):
			state = star
		case c == ',' && last >= 0:
			state = part
		case last >= 0 && c == ends[last]:
			ends, state = ends[:last], behind
		case i == len(text) && last < 0:
			return -1
		default:
			return i
		}
	}
	return len(text)
}

// holdParse: does Parse say what the model says?
func holdParse(t *testing.T, text string) {
	t.Helper()
	if at := misplaced(text); at >= 0 {
		refuses(t, text, at, api.ErrText)
		return
	}
	want := of(text)
	if e := firstFlaw(want); e != api.OK {
		refuses(t, text, 0, e)
		return
	}
	got, at, e := Parse(text)
	is(t, fmt.Sprintf("Parse(%q)", text), got, e, want)
	if back, e := Print(got); at != 0 || back != text || e != api.OK {
		t.Errorf("Parse(%q): at %d; Print of it: %q, %d", text, at, back, e)
	}
}

// All texts of up to so many of these bytes.
func TestParseAll(t *testing.T) {
	for _, c := range []struct {
		bytes string
		most  int
	}{{"{}[],*0129x$", 4}, {"{}[],*12", 6}, {"{},12", 7}, {"1*023", 7}} {
		var walk func(text string)
		walk = func(text string) {
			holdParse(t, text)
			if len(text) < c.most && !t.Failed() {
				for i := range len(c.bytes) {
					walk(text + c.bytes[i:i+1])
				}
			}
		}
		walk("")
	}
}

// Texts of splits, with each byte left out, twice there, or another one; and all that they begin with.
func TestParseNearly(t *testing.T) {
	for _, x := range append(every(3), some()[:80]...) {
		text, _ := Print(x)
		for i := range len(text) {
			holdParse(t, text[:i])
			holdParse(t, text[:i]+text[i+1:])
			for _, c := range "{}[],*0129 " {
				holdParse(t, text[:i]+string(c)+text[i+1:])
				holdParse(t, text[:i]+string(c)+text[i:])
			}
		}
	}
}

// P13.6

func TestParseOfPrint(t *testing.T) {
	for _, x := range append(every(7), some()...) {
		text, e := Print(x)
		if e != api.OK || misplaced(text) != -1 || show(of(text)) != show(x) {
			t.Fatalf("Print of %s = %q, %d", show(x), text, e)
		}
		got, at, e := Parse(text)
		is(t, fmt.Sprintf("Parse(%q)", text), got, e, x)
		if at != 0 {
			t.Errorf("Parse(%q): at %d", text, at)
		}
	}
}

// Every Pane and every Size.
func TestParseOfPrintNumbers(t *testing.T) {
	for n := 1; n <= api.MaxParam; n++ {
		for _, x := range []api.Split{pane(n, 1), pane(1, n), pane(n, n), {Way: api.Row, Size: n, Kids: []api.Split{pane(n, 1+n/2), pane(1+n%api.MaxParam, n)}}} {
			text, e := Print(x)
			if e != api.OK {
				t.Fatalf("Print of %s: %d", show(x), e)
			}
			got, _, e := Parse(text)
			is(t, fmt.Sprintf("Parse(%q)", text), got, e, x)
		}
	}
}
