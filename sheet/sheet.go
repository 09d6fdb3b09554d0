// Package sheet: a screen while it is being changed, for the layers that change screens. See doc/05-put.md.
package sheet

import (
	"slices"
	"strings"

	"trellis/api"
	"trellis/halves"
	"trellis/text"
)

// AllModes of a screen, and those of them that are kept with the cursor.
const (
	AllModes  = api.Insert | api.Origin | api.Wrap | api.Hidden | api.Keypad | api.Paste
	KeptModes = api.Origin | api.Wrap
)

// Sheet: a screen, its cells held row by row. A row's cells are never written to, only others are taken in their place: so rows may be moved about, and be those of the screen that was handed in, until the end.
type Sheet struct {
	api.Screen
	rows [][]api.Cell
}

// Change: s, as do makes it; nothing but e, if that is an error of s.
func Change(s api.Screen, e api.Errno, do func(*Sheet)) (api.Screen, api.Errno) {
	if e != api.OK {
		return api.Screen{}, e
	}
	p := open(s)
	do(p)
	return p.whole(), api.OK
}

func open(s api.Screen) *Sheet {
	p := &Sheet{s, slices.Collect(slices.Chunk(s.G.Cells, s.G.W))}
	p.Tabs = slices.Clone(s.Tabs)
	p.Title = strings.Clone(s.Title)
	p.Gone = slices.Clone(s.Gone)
	return p
}

// whole: the screen, which shares nothing with the one that was handed in.
func (p *Sheet) whole() api.Screen {
	s := p.Screen
	s.G.Cells = slices.Concat(p.rows...)
	for i, row := range s.Gone {
		s.Gone[i] = slices.Clone(row)
	}
	return s
}

// Has: are these bits set in Modes?
func (p *Sheet) Has(bits int) bool { return p.Modes&bits == bits }

// Home: the cursor goes to the first cell of the screen, or, with Origin, of the rows that scroll.
func (p *Sheet) Home() {
	p.X, p.Y, p.Late = 0, 0, false
	if p.Has(api.Origin) {
		p.Y = p.Top
	}
}

// Become s, which takes the place of all that there is.
func (p *Sheet) Become(s api.Screen) { *p = *open(s) }

// blank: what stands where nothing is.
func (p *Sheet) blank() api.Cell { return api.Cell{R: ' ', S: api.Style{Back: p.S.Back}} }

func (p *Sheet) blanks(n int) []api.Cell { return slices.Repeat([]api.Cell{p.blank()}, n) }

// Clear the cells of the row y from the column first up to end, but not end itself.
func (p *Sheet) Clear(y, first, end int) {
	p.relay(y, func(row []api.Cell) []api.Cell {
		return slices.Concat(row[:first], p.blanks(end-first), row[end:])
	})
}

// Write r over the cells from X on, which the row has, in the style S.
func (p *Sheet) Write(r rune) {
	cells := []api.Cell{{R: r, S: p.S}, {S: p.S}}[:text.Width(r)]
	p.relay(p.Y, func(row []api.Cell) []api.Cell {
		return slices.Concat(row[:p.X], cells, row[p.X+len(cells):])
	})
}

// Insert n blanks at X, which the row has room for: the cells from there on go to the right, and what leaves the row goes.
func (p *Sheet) Insert(n int) {
	p.relay(p.Y, func(row []api.Cell) []api.Cell {
		return slices.Concat(row[:p.X], p.blanks(n), row[p.X:len(row)-n])
	})
}

// Delete n cells from X on, which the row has: the others come to the left, and blanks behind them.
func (p *Sheet) Delete(n int) {
	p.relay(p.Y, func(row []api.Cell) []api.Cell {
		return slices.Concat(row[:p.X], row[p.X+n:], p.blanks(n))
	})
}

// relay the row y as how does, which answers new cells: runes may be cut by it, where cells part and where they meet.
func (p *Sheet) relay(y int, how func([]api.Cell) []api.Cell) {
	row := how(p.rows[y])
	halves.Mend(row)
	p.rows[y] = row
}

// Up: the rows from top on move up, once; the first one of the screen is kept.
func (p *Sheet) Up(top int) {
	if top == 0 {
		p.keep(p.rows[0])
	}
	p.Drop(top)
}

// Drop the row top: those below it, up to Bottom, move up; nothing is kept.
func (p *Sheet) Drop(top int) { p.replace(top, p.Bottom) }

// Down: the rows from top on move down, once.
func (p *Sheet) Down(top int) { p.replace(p.Bottom, top) }

// replace the row gone by a blank one, which comes to stand at the row fresh; those between them make room.
func (p *Sheet) replace(gone, fresh int) {
	p.rows = slices.Delete(p.rows, gone, gone+1)
	p.rows = slices.Insert(p.rows, fresh, p.blanks(p.G.W))
}

// keep row behind all that is gone.
func (p *Sheet) keep(row []api.Cell) {
	p.Gone = append(p.Gone, row)
	if len(p.Gone) > api.MaxHistory {
		p.Gone = slices.Delete(p.Gone, 0, 1)
	}
}

// Feed: to the next row; at Bottom that one comes up.
func (p *Sheet) Feed() {
	p.Late = false
	switch {
	case p.Y == p.Bottom:
		p.Up(p.Top)
	case p.Y < p.G.H-1:
		p.Y++
	}
}

// Print r; one that takes no cell, as 0 and what is no rune, or more cells than a row has, does nothing.
func (p *Sheet) Print(r rune) {
	wide := text.Width(r)
	if wide == 0 || wide > p.G.W {
		return
	}
	fits := func() bool { return wide <= p.G.W-p.X }
	if p.Late || p.Has(api.Wrap) && !fits() {
		p.X = 0
		p.Feed()
	}
	if !fits() {
		return
	}
	if p.Has(api.Insert) {
		p.Insert(wide)
	}
	p.Write(r)
	p.advance(wide)
	p.Last = r
}

// advance: X goes on by what was written; behind the last column there is none, so Late keeps it in mind.
func (p *Sheet) advance(wide int) {
	p.X += wide
	if p.X == p.G.W {
		p.X = p.G.W - 1
		p.Late = p.Has(api.Wrap)
	}
}
