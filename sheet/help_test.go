package sheet_test

import (
	"slices"
	"strings"

	"pleat/api"
	"pleat/samples"
)

// onePiece: is some triangle there, and do all come to the first one?
func onePiece(s api.Sheet) bool {
	label := samples.Labels(samples.Tris(s), func(t api.Tri) []api.Tri { return samples.Neighbours(s, t) })
	for _, l := range label {
		if l != 0 {
			return false
		}
	}
	return len(label) > 0
}

// same: are both sheets alike? Lists without elements may be nil or not.
func same(a, b api.Sheet) bool {
	return a.W == b.W && a.H == b.H && slices.Equal(a.Mask, b.Mask) && slices.Equal(a.Creases, b.Creases)
}

func text(lines ...string) string { return strings.Join(lines, "\n") }

// nothing: is it the zero sheet?
func nothing(s api.Sheet) bool { return same(s, api.Sheet{}) }
