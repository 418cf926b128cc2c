package desk

import (
	"slices"

	"pleat/api"
	"pleat/cut"
	"pleat/fold"
	"pleat/lines"
	"pleat/paper"
	"pleat/sheet"
	"pleat/solve"
	"pleat/stack"
	"pleat/view"
)

// lay a new sheet there, alone.
func (t *table) lay(words []string) string {
	refuse(len(words) != 2, api.ErrForm)
	w, h := numberOf(words[0]), numberOf(words[1])
	refuse(!paper.MaySide(w) || !paper.MaySide(h), api.ErrRange)
	whole := api.Sheet{W: w, H: h, Mask: slices.Repeat([]int{15}, w*h)}
	t.Desk = api.Desk{States: []api.State{sure(fold.Flat(whole))}}
	return ""
}

func (t *table) fold(words []string) string {
	f := foldOf(words) // what its words have wrong is told ahead of what the fold has
	t.put(sure(fold.Do(t.lying(), f)))
	return ""
}

func (t *table) turn(words []string) string {
	t.put(sure(stack.Turn(t.alone(words))))
	return ""
}

func (t *table) undo(words []string) string { return t.step(words, -1) }

func (t *table) redo(words []string) string { return t.step(words, 1) }

// step to the state ahead, or behind.
func (t *table) step(words []string, by int) string {
	t.alone(words)
	to := t.Now + by
	refuse(to < 0 || to >= len(t.States), api.ErrEnd)
	t.Now = to
	return ""
}

func (t *table) show(words []string) string { return sure(view.Picture(t.alone(words))) }

func (t *table) sheet(words []string) string { return sure(sheet.Show(t.alone(words).Sheet)) }

func (t *table) thick(words []string) string {
	most, places, code := view.Thick(t.alone(words))
	refuse(code != api.OK, code)
	return lines.Of(most, places)
}

func (t *table) count(words []string) string {
	return lines.Of(sure(solve.Count(t.alone(words).Sheet)))
}

func (t *table) cut(words []string) string {
	refuse(len(words) != 2, api.ErrForm)
	l := lineOf(words[0], words[1])
	var sizes []int
	for _, piece := range sure(cut.Pieces(t.lying(), l)) {
		sizes = append(sizes, len(piece))
	}
	return lines.Of(sizes...)
}

// alone: the state that lies there, for a command that has no words but its name.
func (t *table) alone(words []string) api.State {
	refuse(len(words) > 0, api.ErrForm)
	return t.lying()
}
