package halves

import (
	"slices"
	"testing"

	"trellis/api"
	"trellis/text"
)

var (
	red   = api.Style{Back: 2, Bits: api.Bold}
	green = api.Style{Fore: 3}
)

// cells that a row may have, right or not.
func cells() []api.Cell {
	return []api.Cell{{R: 'a', S: red}, {R: ' ', S: green}, {R: '日', S: red}, {R: '語', S: green}, {S: red}, {S: green}}
}

// allRows of so many cells.
func allRows(long int) [][]api.Cell {
	if long == 0 {
		return [][]api.Cell{nil}
	}
	var all [][]api.Cell
	for _, row := range allRows(long - 1) {
		for _, c := range cells() {
			all = append(all, append(slices.Clone(row), c))
		}
	}
	return all
}

// twoHalves: do x and the cell behind it make a wide rune, but for their looks?
func twoHalves(row []api.Cell, x int) bool {
	return x >= 0 && x+1 < len(row) && text.Width(row[x].R) == 2 && row[x+1].R == 0
}

func TestLoose(t *testing.T) {
	for long := range 5 {
		for _, row := range allRows(long) {
			for x, c := range row {
				isHalf := c.R == 0 || text.Width(c.R) == 2
				want := isHalf && !twoHalves(row, x) && !(c.R == 0 && twoHalves(row, x-1))
				if got := Loose(row, x); got != want {
					t.Fatalf("Loose(%v, %d): %v", row, x, got)
				}
			}
		}
	}
}

// Whole runes stay, of halves without another one of their look only the look stays, and nothing else is touched.
func TestMend(t *testing.T) {
	for long := range 6 {
		for _, row := range allRows(long) {
			got := slices.Clone(row)
			Mend(got)
			for x, c := range row {
				whole := twoHalves(row, x) && row[x+1].S == c.S || c.R == 0 && twoHalves(row, x-1) && row[x-1].S == c.S
				want := c
				if !whole && (c.R == 0 || text.Width(c.R) == 2) {
					want.R = ' '
				}
				if got[x] != want {
					t.Fatalf("Mend(%v): %v, want %v at %d", row, got, want, x)
				}
			}
		}
	}
}

func TestMendOfNothing(t *testing.T) {
	Mend(nil)
	Mend([]api.Cell{})
}

// Mend keeps to the row: what lies behind it isn't its matter.
func TestMendKeepsToTheRow(t *testing.T) {
	long := []api.Cell{{R: '日'}, {}, {}, {R: '日'}}
	Mend(long[1:2])
	Mend(long[:1])
	if want := []api.Cell{{R: ' '}, {R: ' '}, {}, {R: '日'}}; !slices.Equal(long, want) {
		t.Errorf("%v, want %v", long, want)
	}
}
