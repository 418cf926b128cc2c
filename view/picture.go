package view

import (
	"strconv"
	"strings"

	"pleat/api"
)

// spot in the plane where a cell is.
type spot struct{ x, y int }

// cell of which something is seen: which of its triangles paper covers, and at which of them a back side is seen, as sums like those of a sheet's mask.
type cell struct{ covered, backs int }

// drawn: the picture of what is seen, which is something, and rises by places.
func drawn(seen []api.Seen) string {
	cells := cellsOf(seen)
	west, east := width(seen)
	south, north := seen[0].At.Y, seen[len(seen)-1].At.Y
	var b strings.Builder
	for y := north; y >= south; y-- {
		var row []string
		for x := west; x <= east; x++ {
			row = append(row, cells[spot{x, y}].letters())
		}
		b.WriteString(strings.Join(row, " ") + "\n")
	}
	return b.String()
}

func cellsOf(seen []api.Seen) map[spot]cell {
	cells := map[spot]cell{}
	for _, s := range seen {
		at := spot{s.At.X, s.At.Y}
		c := cells[at]
		c.covered += 1 << s.At.K
		if s.Back {
			c.backs += 1 << s.At.K
		}
		cells[at] = c
	}
	return cells
}

// width: from which cells to which ones it goes, in all rows together.
func width(seen []api.Seen) (west, east int) {
	west, east = seen[0].At.X, seen[0].At.X
	for _, s := range seen {
		west, east = min(west, s.At.X), max(east, s.At.X)
	}
	return west, east
}

func (c cell) letters() string {
	if c == (cell{}) {
		return ".."
	}
	return letter(c.covered) + letter(c.backs)
}

// letter of base 16.
func letter(n int) string { return strconv.FormatInt(int64(n), 16) }
