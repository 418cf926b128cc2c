package desk

import (
	"slices"

	"pleat/api"
	"pleat/paper"
)

// table at which someone folds: a desk whose memory is its own.
type table struct {
	api.Desk
}

// command: with the words behind its name it does what it does, and answers a text; it gives up ahead of changing anything.
type command func(t *table, words []string) string

// commands by their names.
func commands() map[string]command {
	return map[string]command{
		"new":   (*table).lay,
		"fold":  (*table).fold,
		"turn":  (*table).turn,
		"undo":  (*table).undo,
		"redo":  (*table).redo,
		"show":  (*table).show,
		"sheet": (*table).sheet,
		"thick": (*table).thick,
		"count": (*table).count,
		"cut":   (*table).cut,
	}
}

// run the words of a line.
func (t *table) run(words []string) (text string, code api.Errno) {
	defer func() {
		if wrong := recover(); wrong != nil {
			text, code = "", wrong.(api.Errno)
		}
	}()
	refuse(len(words) == 0, api.ErrName)
	do, found := commands()[words[0]]
	refuse(!found, api.ErrName)
	return do(t, words[1:]), api.OK
}

// told: what comes of the words of a line, an error too, as text.
func (t *table) told(words []string) string {
	text, code := t.run(words)
	if code != api.OK {
		return code.Error() + "\n"
	}
	return text
}

// refuse gives up, if something is wrong; run recovers what was told.
func refuse(wrong bool, code api.Errno) {
	if wrong {
		panic(code)
	}
}

// sure of an answer: one that has an error is refused.
func sure[T any](answer T, code api.Errno) T {
	refuse(code != api.OK, code)
	return answer
}

// lying: the state that lies there.
func (t *table) lying() api.State {
	refuse(len(t.States) == 0, api.ErrNone)
	return t.States[t.Now]
}

// put a state behind the one that lies there: it lies there then, and what stood behind is gone.
func (t *table) put(st api.State) {
	refuse(t.Now+1 >= api.MaxStates, api.ErrSize)
	t.Now++
	t.States = append(slices.Delete(t.States, t.Now, len(t.States)), st)
}

// copied: a desk that shares nothing with another one.
func copied(d api.Desk) api.Desk {
	d.States = slices.Clone(d.States)
	for i, st := range d.States {
		d.States[i] = copiedState(st)
	}
	return d
}

func copiedState(st api.State) api.State {
	st.Sheet, st.Maps, st.Stacks = paper.Copy(st.Sheet), slices.Clone(st.Maps), slices.Clone(st.Stacks)
	for i, s := range st.Stacks {
		st.Stacks[i].Tris = slices.Clone(s.Tris)
	}
	return st
}
