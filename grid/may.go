package grid

import "pleat/api"

// answer makes an answer of what may be. Nothing is computed of numbers that were not looked at, so none of them can leave 64 bits.
func answer[T any](may bool, compute func() (T, api.Errno)) (T, api.Errno) {
	var none T
	if !may {
		return none, api.ErrRange
	}
	made, code := compute()
	if code != api.OK {
		return none, code
	}
	return made, api.OK
}

// sized refuses a map that was made of what may be, and so can be wrong in its numbers' size alone.
func sized(a api.Map) (api.Map, api.Errno) {
	if !mayMap(a) {
		return api.Map{}, api.ErrSize
	}
	return a, api.OK
}

func mayTri(t api.Tri) bool {
	return quarter(t.K) && near(t.X) && near(t.Y)
}

func mayLine(l api.Line) bool {
	return quarter(l.Way) && evenPlace(l.C)
}

func mayMap(a api.Map) bool {
	kept := unit(a.A) && a.B == 0 && a.C == 0 && unit(a.D)
	swapped := a.A == 0 && unit(a.B) && unit(a.C) && a.D == 0
	return (kept || swapped) && evenPlace(a.E) && evenPlace(a.F)
}

// quarter: is it one of four kinds or ways?
func quarter(n int) bool { return 0 <= n && n <= 3 }

func near(n int) bool { return -api.MaxPlace <= n && n <= api.MaxPlace }

func evenPlace(n int) bool { return near(n) && n%2 == 0 }

func unit(n int) bool { return n == 1 || n == -1 }
