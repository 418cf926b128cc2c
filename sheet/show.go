package sheet

import (
	"strconv"
	"strings"

	"pleat/api"
)

// letters of cells: which one stands for a number.
const letters = "0123456789abcdef"

func show(s api.Sheet) string {
	var b strings.Builder
	b.WriteString("sheet" + numbers(s.W, s.H) + "\n")
	for y := s.H - 1; y >= 0; y-- {
		for _, n := range s.Mask[y*s.W : (y+1)*s.W] {
			b.WriteByte(letters[n])
		}
		b.WriteString("\n")
	}
	for _, c := range s.Creases {
		b.WriteString(letter(c.Kind) + numbers(c.E.P.X, c.E.P.Y, c.E.Q.X, c.E.Q.Y) + "\n")
	}
	return b.String()
}

// numbers, each behind a blank.
func numbers(all ...int) string {
	text := ""
	for _, n := range all {
		text += " " + strconv.Itoa(n)
	}
	return text
}

// letter of a crease's kind.
func letter(kind int) string {
	if kind == api.Mountain {
		return "m"
	}
	return "v"
}
