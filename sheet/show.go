package sheet

import (
	"strings"

	"pleat/api"
	"pleat/lines"
)

// letters of cells: which one stands for a number.
const letters = "0123456789abcdef"

func show(s api.Sheet) string {
	var b strings.Builder
	b.WriteString("sheet " + lines.Of(s.W, s.H))
	for y := s.H - 1; y >= 0; y-- {
		for _, n := range s.Mask[y*s.W : (y+1)*s.W] {
			b.WriteByte(letters[n])
		}
		b.WriteString("\n")
	}
	for _, c := range s.Creases {
		b.WriteString(letter(c.Kind) + " " + lines.Of(c.E.P.X, c.E.P.Y, c.E.Q.X, c.E.Q.Y))
	}
	return b.String()
}

// letter of a crease's kind.
func letter(kind int) string {
	if kind == api.Mountain {
		return "m"
	}
	return "v"
}
