// Package halves: the two cells of a wide rune, and what becomes of one without the other. See doc/03-grid.md.
package halves

import (
	"trellis/api"
	"trellis/text"
)

// Loose: is the cell at x one half of a wide rune, and the other half isn't beside it?
func Loose(row []api.Cell, x int) bool {
	if row[x].R == 0 {
		return x == 0 || text.Width(row[x-1].R) != 2
	}
	return text.Width(row[x].R) == 2 && (x == len(row)-1 || row[x+1].R != 0)
}

// Mend makes blanks of halves whose other half was overwritten or cut off, or moved away. Halves of two runes that came together are one rune's only if they look alike, since no rune has two looks.
func Mend(row []api.Cell) {
	for x := range row {
		if Loose(row, x) || isParted(row, x) {
			row[x].R = ' '
		}
	}
}

// isParted: does the cell at x, which isn't loose, have the half of another rune behind it, as that one's look tells?
func isParted(row []api.Cell, x int) bool {
	return text.Width(row[x].R) == 2 && row[x].S != row[x+1].S
}
