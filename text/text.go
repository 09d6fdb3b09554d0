// Package text: runes, and how wide they are. See doc/01-text.md.
package text

import (
	"strings"
	"unicode/utf8"

	"trellis/api"
)

// span: runes that stand side by side and are equally wide.
type span struct {
	first, last rune
	width       int
}

// spans are sorted, so that Width may stop at the first one that begins behind its rune; what lies between two of them is 1 wide.
var spans = [...]span{
	{0x0, 0x1F, 0},
	{0x7F, 0x9F, 0},
	{0x300, 0x36F, 0},
	{0x1100, 0x115F, 2},
	{0x200B, 0x200F, 0},
	{0x2028, 0x202E, 0},
	{0x20D0, 0x20FF, 0},
	{0x2E80, 0x303E, 2},
	{0x3041, 0x4DBF, 2},
	{0x4E00, 0xA4CF, 2},
	{0xAC00, 0xD7A3, 2},
	{0xD800, 0xDFFF, 0},
	{0xF900, 0xFAFF, 2},
	{0xFE00, 0xFE0F, 0},
	{0xFE30, 0xFE6F, 2},
	{0xFEFF, 0xFEFF, 0},
	{0xFF00, 0xFF60, 2},
	{0xFFE0, 0xFFE6, 2},
	{0x1F300, 0x1F64F, 2},
	{0x1F900, 0x1F9FF, 2},
	{0x20000, 0x3FFFD, 2},
}

// Next: the first rune of b, and how many bytes it takes; U+FFFD and 1 where no whole right rune begins; 0, 0 of "".
func Next(b string) (rune, int) {
	if b == "" {
		return 0, 0
	}
	return utf8.DecodeRuneInString(b)
}

// Width: how many cells r takes: 0, 1 or 2; 0 also of what is no rune.
func Width(r rune) int {
	if r < 0 || r > utf8.MaxRune {
		return 0
	}
	for _, s := range spans {
		if r < s.first {
			break
		}
		if r <= s.last {
			return s.width
		}
	}
	return 1
}

// Wide: how many cells s takes. (A range over a string tells the runes that Next tells, here and below.)
func Wide(s string) int {
	wide := 0
	for _, r := range s {
		wide += Width(r)
	}
	return wide
}

// Cut: the beginning of s, up to the first rune with which it would be wider than n.
func Cut(s string, n int) string {
	wide := 0
	for at, r := range s {
		wide += Width(r)
		if wide > n {
			return strings.Clone(s[:at]) // a copy: a short piece is not to hold a long text in memory
		}
	}
	return strings.Clone(s)
}

// Fit: s, cut or with blanks behind it, so that it takes n cells; "" unless n is from 0 to api.MaxWide.
func Fit(s string, n int) string {
	if n < 0 || n > api.MaxWide {
		return ""
	}
	cut := Cut(s, n)
	return cut + strings.Repeat(" ", n-Wide(cut))
}

// Columns: where in a row each rune of s stands that takes a cell, if s begins at column 0.
func Columns(s string) []int {
	var columns []int
	wide := 0
	for _, r := range s {
		if w := Width(r); w > 0 {
			columns = append(columns, wide)
			wide += w
		}
	}
	return columns
}

// Clean: the runes of s that take a cell; what was no whole right rune is U+FFFD.
func Clean(s string) string {
	var clean strings.Builder
	for _, r := range s {
		if Width(r) > 0 {
			clean.WriteRune(r)
		}
	}
	return clean.String()
}
