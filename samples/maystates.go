package samples

import (
	"slices"

	"pleat/api"
	"pleat/grid"
)

// GoodStates: states that may be, at the edges of what may be too; some have clashes.
func GoodStates() map[string]api.State {
	out := map[string]api.State{}
	for name, s := range Good() {
		maps := slices.Repeat([]api.Map{Stay()}, len(Tris(s)))
		out["lying "+name] = Stacked(With(s), maps, make([]int, len(maps)))
	}
	once := api.Fold{Line: api.Line{C: 2}, Side: 1, Over: true}
	under := api.Fold{Line: api.Line{Way: api.Falling, C: 2}, Side: -1}
	out["folded once"] = Folded(Full(2, 2), once)
	out["folded twice"] = Folded(Full(2, 2), once, under)
	out["folded three times"] = Folded(Full(4, 3), under, once, api.Fold{Line: api.Line{Way: api.Level, C: 2}, Side: -1, Over: true})
	out["all on one triangle"] = onOne()
	valley := With(Full(2, 1), Crease(api.Valley, 2, 0, 2, 2))
	out["misfolded"] = Stacked(valley, slices.Concat(slices.Repeat([]api.Map{Stay()}, 4), slices.Repeat([]api.Map{{A: -1, D: 1, E: 4}}, 4)), []int{1, 1, 1, 1, 0, 0, 0, 0})
	for name, m := range map[string]api.Map{
		"turned over":    {A: -1, D: 1},
		"turned":         {B: -1, C: 1, E: 6, F: -4},
		"farthest":       {A: 1, D: 1, E: api.MaxPlace - 4, F: api.MaxPlace},
		"farthest below": {A: 1, D: 1, E: -api.MaxPlace, F: -api.MaxPlace},
		"far and turned": {B: -1, C: -1, E: api.MaxPlace, F: -api.MaxPlace + 4},
	} {
		out["folded once, "+name] = Brought(out["folded once"], m)
	}
	return out
}

// onOne: the greatest sheet, creased at all edges, comes to lie in its first triangle's place.
func onOne() api.State {
	s := Creased(Full(api.MaxSide, api.MaxSide), func(int) bool { return true })
	tris, heights := Ordered(s), make([]int, 4*api.MaxSide*api.MaxSide)
	maps := make([]api.Map, len(tris))
	for i, t := range tris {
		heights[i] = i * 37 % len(tris)
		maps[i] = ontoFirst(t)
	}
	return Stacked(s, maps, heights)
}

// ontoFirst: what brings a triangle to the first one of all, by mirrors at edges of the grid.
func ontoFirst(t api.Tri) api.Map {
	m := Stay()
	bring := func(l api.Line) {
		mirror, _ := grid.Mirror(l)
		m, _ = grid.After(m, mirror)
		t, _ = grid.Move(mirror, t)
	}
	for t.X > 0 {
		bring(api.Line{C: 2 * t.X})
	}
	for t.Y > 0 {
		bring(api.Line{Way: api.Level, C: 2 * t.Y})
	}
	if t.K == 1 || t.K == 2 {
		bring(api.Line{Way: api.Falling, C: 2})
	}
	if t.K == 3 {
		bring(api.Line{Way: api.Rising})
	}
	return m
}

// WrongStates: states that may not be, each for one reason.
func WrongStates() map[string]api.State {
	out := map[string]api.State{"nothing": {}}
	for name, s := range Wrong() {
		st := Folded(Full(2, 2))
		st.Sheet = s
		out["sheet: "+name] = st
	}
	for name, spoil := range spoilt() {
		st := CopyState(Folded(Full(2, 2), api.Fold{Line: api.Line{C: 2}, Side: 1, Over: true}))
		spoil(&st)
		out[name] = st
	}
	far := Brought(GoodStates()["misfolded"], api.Map{A: 1, D: 1, E: api.MaxPlace - 4})
	for i := range far.Maps {
		far.Maps[i].E += 2
	}
	for i := range far.Stacks {
		far.Stacks[i].At.X++
	}
	out["too far beyond a crease"] = far
	wide := Folded(Full(2, 1))
	slices.Reverse(wide.Stacks)
	slices.Reverse(wide.Stacks[:4])
	slices.Reverse(wide.Stacks[4:])
	out["falling by X"] = wide
	return out
}

// spoilt: what may be wrong with a state of 2 and 2 cells, of which the western ones have the eastern ones on them.
func spoilt() map[string]func(st *api.State) {
	out := map[string]func(st *api.State){
		"another sheet":    func(st *api.State) { st.Sheet = Full(2, 3) },
		"the creases lack": func(st *api.State) { st.Sheet.Creases = nil },
		"a crease lacks":   func(st *api.State) { st.Sheet.Creases = st.Sheet.Creases[1:] },
		"a crease too many": func(st *api.State) {
			st.Sheet = With(st.Sheet, append([]api.Crease{Crease(1, 0, 0, 1, 1)}, st.Sheet.Creases...)...)
		},
		"no maps":                       func(st *api.State) { st.Maps = nil },
		"a map lacks":                   func(st *api.State) { st.Maps = st.Maps[:15] },
		"a map too many":                func(st *api.State) { st.Maps = append(st.Maps, st.Maps[15]) },
		"no stacks":                     func(st *api.State) { st.Stacks = nil },
		"the first stack lacks":         func(st *api.State) { st.Stacks = st.Stacks[1:] },
		"the last stack lacks":          func(st *api.State) { st.Stacks = st.Stacks[:7] },
		"a stack twice":                 func(st *api.State) { st.Stacks = slices.Insert(st.Stacks, 3, st.Stacks[3]) },
		"the last stack twice":          func(st *api.State) { st.Stacks = append(st.Stacks, st.Stacks[7]) },
		"empty stack first":             func(st *api.State) { st.Stacks = slices.Insert(st.Stacks, 0, api.Stack{At: api.Tri{Y: -1}}) },
		"empty stack between":           func(st *api.State) { st.Stacks = slices.Insert(st.Stacks, 4, api.Stack{At: api.Tri{X: 1}}) },
		"empty stack last":              func(st *api.State) { st.Stacks = append(st.Stacks, api.Stack{At: api.Tri{Y: 9}}) },
		"emptied stack":                 func(st *api.State) { st.Stacks[2].Tris = []api.Tri{} },
		"a triangle lacks":              func(st *api.State) { st.Stacks[2].Tris = st.Stacks[2].Tris[1:] },
		"a triangle twice in one stack": func(st *api.State) { st.Stacks[2].Tris = append(st.Stacks[2].Tris, st.Stacks[2].Tris[0]) },
		"one instead of the other":      func(st *api.State) { st.Stacks[2].Tris[0] = st.Stacks[2].Tris[1] },
		"a triangle in two stacks":      func(st *api.State) { st.Stacks[2].Tris = append(st.Stacks[2].Tris, st.Stacks[5].Tris[0]) },
		"triangles exchanged": func(st *api.State) {
			st.Stacks[2].Tris[0], st.Stacks[5].Tris[0] = st.Stacks[5].Tris[0], st.Stacks[2].Tris[0]
		},
		"a triangle that is not there": func(st *api.State) { st.Stacks[2].Tris = append(st.Stacks[2].Tris, api.Tri{X: 2}) },
		"a triangle that may not be":   func(st *api.State) { st.Stacks[2].Tris = append(st.Stacks[2].Tris, api.Tri{K: 4}) },
		"a triangle far out":           func(st *api.State) { st.Stacks[2].Tris = append(st.Stacks[2].Tris, api.Tri{X: -1 << 63, Y: 1<<63 - 1}) },
		"places exchanged":             func(st *api.State) { st.Stacks[2].At, st.Stacks[5].At = st.Stacks[5].At, st.Stacks[2].At },
		"another place":                func(st *api.State) { st.Stacks[7].At.Y++ },
		"a place that may not be":      func(st *api.State) { st.Stacks[7].At.K = 4 },
		"falling by K":                 func(st *api.State) { st.Stacks[1], st.Stacks[2] = st.Stacks[2], st.Stacks[1] },
		"falling by Y":                 func(st *api.State) { st.Stacks[3], st.Stacks[4] = st.Stacks[4], st.Stacks[3] },
		"turned round":                 func(st *api.State) { slices.Reverse(st.Stacks) },
		"one place in two stacks":      func(st *api.State) { st.Stacks = slices.Insert(st.Stacks, 3, parted(&st.Stacks[2])) },
		"another map on one's own":     func(st *api.State) { st.Maps[0] = api.Map{A: -1, D: -1, E: 2, F: 2} },
		"one map for all": func(st *api.State) {
			*st = api.State{Sheet: st.Sheet, Maps: Folded(Full(2, 2)).Maps, Stacks: Folded(Full(2, 2)).Stacks}
		},
		"maps that are not of this fold": func(st *api.State) {
			st.Maps = Folded(Full(2, 2), api.Fold{Line: api.Line{Way: api.Level, C: 2}, Side: 1, Over: true}).Maps
		},
	}
	for name, m := range map[string]api.Map{
		"zero": {}, "no map that keeps lengths": {A: 2, D: 1}, "slanting": {A: 1, B: 1, D: 1}, "flat": {A: 1}, "odd": {A: 1, D: 1, E: 1},
		"too far": {A: 1, D: 1, E: api.MaxPlace + 2}, "too far below": {A: 1, D: 1, F: -api.MaxPlace - 2}, "least": {A: -1 << 63, B: -1 << 63, C: -1 << 63, D: -1 << 63, E: -1 << 63, F: -1 << 63},
	} {
		out["one map: "+name] = func(st *api.State) { st.Maps[5] = m }
		out["all maps: "+name] = func(st *api.State) { fill(st.Maps, m) }
	}
	return out
}

// parted: the upper one of a stack's triangles as a stack of its own.
func parted(s *api.Stack) api.Stack {
	upper := api.Stack{At: s.At, Tris: s.Tris[1:]}
	s.Tris = s.Tris[:1]
	return upper
}
