package paper

import (
	"cmp"

	"pleat/api"
)

// ComparePoints: by X, then Y.
func ComparePoints(a, b api.Point) int {
	return cmp.Or(cmp.Compare(a.X, b.X), cmp.Compare(a.Y, b.Y))
}

// CompareEdges: by P, then Q.
func CompareEdges(a, b api.Edge) int {
	return cmp.Or(ComparePoints(a.P, b.P), ComparePoints(a.Q, b.Q))
}

// CompareTris: by Y, then X, then K.
func CompareTris(a, b api.Tri) int {
	return cmp.Or(cmp.Compare(a.Y, b.Y), cmp.Compare(a.X, b.X), cmp.Compare(a.K, b.K))
}
