package paper

import (
	"cmp"

	"pleat/api"
)

// ComparePoints: by X, then Y.
func ComparePoints(a, b api.Point) int {
	return cmp.Or(cmp.Compare(a.X, b.X), cmp.Compare(a.Y, b.Y))
}

// CompareEdges: by P, then Q.
func CompareEdges(a, b api.Edge) int {
	return cmp.Or(ComparePoints(a.P, b.P), ComparePoints(a.Q, b.Q))
}
