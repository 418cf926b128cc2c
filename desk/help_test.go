package desk_test

import (
	"regexp"
	"slices"
	"strconv"
	"strings"

	"pleat/api"
	"pleat/cut"
	"pleat/fold"
	"pleat/grid"
	"pleat/samples"
	"pleat/sheet"
	"pleat/solve"
	"pleat/stack"
	"pleat/view"
)

// die: numbers that look drawn, the same each time.
type die uint64

func (d *die) below(most int) int {
	*d = *d*6364136223846793005 + 1442695040888963407
	return int(uint64(*d>>33) % uint64(most))
}

// pick one of some.
func pick[T any](d *die, some ...T) T { return some[d.below(len(some))] }

// forms of all commands, with one blank between two words.
func forms() map[string]*regexp.Regexp {
	const number, way = "(-?[0-9]{1,3})", "(x|y|x[+]y|x-y)"
	out := map[string]*regexp.Regexp{
		"new":  regexp.MustCompile("^new " + number + " " + number + "$"),
		"fold": regexp.MustCompile("^fold " + way + " " + number + " (above|below) (over|under)( " + number + " " + number + " " + number + " ([senw]))?$"),
		"cut":  regexp.MustCompile("^cut " + way + " " + number + "$"),
	}
	for _, name := range []string{"turn", "undo", "redo", "show", "sheet", "thick", "count"} {
		out[name] = regexp.MustCompile("^" + name + "$")
	}
	return out
}

var (
	allForms = forms()
	blanks   = regexp.MustCompile("[\t\r ]+")
)

// wanted: what Run should answer, by the chapter's words.
func wanted(d api.Desk, line string) (api.Desk, string, api.Errno) {
	if !wantedMay(d) {
		return api.Desk{}, "", api.ErrState
	}
	said := strings.Trim(blanks.ReplaceAllString(line, " "), " ")
	name, _, _ := strings.Cut(said, " ")
	form := allForms[name]
	if form == nil {
		return d, "", api.ErrName
	}
	told := form.FindStringSubmatch(said)
	switch {
	case told == nil:
		return d, "", api.ErrForm
	case name == "new":
		return wantedNew(d, number(told[1]), number(told[2]))
	case len(d.States) == 0:
		return d, "", api.ErrNone
	}
	switch name {
	case "fold":
		next, code := fold.Do(d.States[d.Now], foldTold(told))
		return wantedPut(d, next, code)
	case "turn":
		next, code := stack.Turn(d.States[d.Now])
		return wantedPut(d, next, code)
	case "undo":
		return wantedStep(d, d.Now-1)
	case "redo":
		return wantedStep(d, d.Now+1)
	}
	text, code := wantedText(d.States[d.Now], name, told)
	return d, text, code
}

func wantedMay(d api.Desk) bool {
	for _, st := range d.States {
		if !stack.May(st) {
			return false
		}
	}
	if len(d.States) == 0 {
		return d.Now == 0
	}
	return len(d.States) <= 60 && 0 <= d.Now && d.Now <= len(d.States)-1
}

func number(word string) int {
	n, err := strconv.Atoi(word)
	if err != nil {
		panic(err)
	}
	return n
}

// lineTold: a line of the grid in words.
func lineTold(way, c string) api.Line {
	return api.Line{Way: map[string]int{"x": api.Upright, "y": api.Level, "x+y": api.Falling, "x-y": api.Rising}[way], C: number(c)}
}

// foldTold: a fold in words, as its form parts them.
func foldTold(told []string) api.Fold {
	f := api.Fold{Line: lineTold(told[1], told[2]), Side: map[string]int{"above": 1, "below": -1}[told[3]], Over: told[4] == "over"}
	if told[5] != "" {
		f.Layers, f.At = number(told[6]), api.Tri{X: number(told[7]), Y: number(told[8]), K: strings.Index("senw", told[9])}
	}
	return f
}

// words of a fold.
func words(f api.Fold) string {
	all := []string{"fold", []string{"x", "y", "x+y", "x-y"}[f.Line.Way], strconv.Itoa(f.Line.C), "above", "under"}
	if f.Side < 0 {
		all[3] = "below"
	}
	if f.Over {
		all[4] = "over"
	}
	if f.Layers != 0 {
		all = append(all, strconv.Itoa(f.Layers), strconv.Itoa(f.At.X), strconv.Itoa(f.At.Y), []string{"s", "e", "n", "w"}[f.At.K])
	}
	return strings.Join(all, " ")
}

func wantedNew(d api.Desk, w, h int) (api.Desk, string, api.Errno) {
	if w < 1 || w > 8 || h < 1 || h > 8 {
		return d, "", api.ErrRange
	}
	return api.Desk{States: []api.State{samples.Folded(samples.Full(w, h))}}, "", api.OK
}

func wantedPut(d api.Desk, next api.State, code api.Errno) (api.Desk, string, api.Errno) {
	switch {
	case code != api.OK:
		return d, "", code
	case d.Now == 59:
		return d, "", api.ErrSize
	}
	return api.Desk{States: slices.Concat(d.States[:d.Now+1], []api.State{next}), Now: d.Now + 1}, "", api.OK
}

func wantedStep(d api.Desk, to int) (api.Desk, string, api.Errno) {
	if to < 0 || to >= len(d.States) {
		return d, "", api.ErrEnd
	}
	d.Now = to
	return d, "", api.OK
}

// wantedText of a command that changes nothing.
func wantedText(st api.State, name string, told []string) (string, api.Errno) {
	var numbers []string
	var code api.Errno
	switch name {
	case "show":
		return view.Picture(st)
	case "sheet":
		return sheet.Show(st.Sheet)
	case "thick":
		most, places, _ := view.Thick(st)
		numbers = []string{strconv.Itoa(most), strconv.Itoa(places)}
	case "count":
		var n int
		n, code = solve.Count(st.Sheet)
		numbers = []string{strconv.Itoa(n)}
	case "cut":
		var pieces [][]api.Tri
		pieces, code = cut.Pieces(st, lineTold(told[1], told[2]))
		for _, piece := range pieces {
			numbers = append(numbers, strconv.Itoa(len(piece)))
		}
	}
	if code != api.OK {
		return "", code
	}
	return strings.Join(numbers, " ") + "\n", api.OK
}

// sameDesk: are two desks alike?
func sameDesk(a, b api.Desk) bool {
	return a.Now == b.Now && slices.EqualFunc(a.States, b.States, samples.SameState)
}

func copyDesk(d api.Desk) api.Desk {
	d.States = slices.Clone(d.States)
	for i, st := range d.States {
		d.States[i] = samples.CopyState(st)
	}
	return d
}

// roomyDesk: the same desk in lists with spare room, and a call that tells whether all of it is still as it was.
func roomyDesk(d api.Desk) (api.Desk, func() bool) {
	var all []func() bool
	var states []api.State
	for _, st := range d.States {
		roomy, stays := samples.RoomyState(st)
		states, all = append(states, roomy), append(all, stays)
	}
	were := slices.Clone(states)
	states = append(states, api.State{Sheet: api.Sheet{W: 77}}, api.State{Sheet: api.Sheet{W: 77}})
	spare := states[len(were):]
	return api.Desk{States: states[:len(were)], Now: d.Now}, func() bool {
		return slices.EqualFunc(states[:len(were)], were, samples.SameState) && spare[0].Sheet.W == 77 && spare[1].Sheet.W == 77 &&
			!slices.ContainsFunc(all, func(stays func() bool) bool { return !stays() })
	}
}

// scribble over all lists of a desk, and their spare room.
func scribble(d api.Desk) {
	states := d.States[:cap(d.States)]
	for i := range states {
		samples.Scribble(states[i])
		states[i] = api.State{Sheet: api.Sheet{W: 99}}
	}
}

// drawnFold: at a line that goes by some paper, of all layers or of some.
func drawnFold(d *die, st api.State) api.Fold {
	place := st.Stacks[d.below(len(st.Stacks))].At
	f := api.Fold{Line: api.Line{Way: d.below(4)}, Side: pick(d, 1, -1), Over: d.below(2) == 0}
	corner := api.Point{X: 2 * (place.X + d.below(2)), Y: 2 * (place.Y + d.below(2))}
	f.Line.C = []int{corner.X, corner.Y, corner.X + corner.Y, corner.X - corner.Y}[f.Line.Way]
	if d.below(2) > 0 {
		f.Layers, f.At = 1+d.below(1+d.below(3)), place
		if d.below(4) > 0 {
			f.Side, _ = grid.Side(f.Line, place)
		}
	}
	return f
}

// drawnLine: most often one that goes, at this desk.
func drawnLine(d *die, on api.Desk) string {
	if len(on.States) == 0 && d.below(3) > 0 {
		return "new " + pick(d, "1", "2", "03") + " " + pick(d, "1", "2", "002")
	}
	if len(on.States) > 0 && d.below(2) > 0 {
		return words(drawnFold(d, on.States[on.Now]))
	}
	return pick(d, "turn", "undo", "redo", "undo", "redo", "show", "sheet", " thick\r", "count", "thick\t", "cut x 2", "cut x+y 2", "cut  y\t0", "cut x-y -2",
		"", "  ", "foo", "shows", "cut z 2", "fold x 2", "fold x 1 above over", "cut y 3", "new 0 1", "new 9 1", "undo 1", "new 2 2", "fold y 2 below over 0 9 9 s", "fold y 2 below over -1 0 0 s")
}

// drawnDesk: what comes of some lines.
func drawnDesk(d *die, count int) api.Desk {
	on, _, _ := wanted(api.Desk{}, "new "+pick(d, "1", "2", "3")+" "+pick(d, "1", "2"))
	for range count {
		if next, _, code := wanted(on, drawnLine(d, on)); code == api.OK && len(next.States) > 1 {
			on = next
		}
	}
	return on
}
