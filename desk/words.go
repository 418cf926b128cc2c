package desk

import (
	"slices"
	"strings"

	"pleat/api"
	"pleat/lines"
)

// foldOf the words behind a fold's name: of all layers, or of some at a place.
func foldOf(words []string) api.Fold {
	refuse(len(words) != 4 && len(words) != 8, api.ErrForm)
	f := api.Fold{
		Line: lineOf(words[0], words[1]),
		Side: 1 - 2*oneOf(words[2], "above", "below"),
		Over: oneOf(words[3], "over", "under") == 0,
	}
	if len(words) == 8 {
		f.Layers = numberOf(words[4])
		f.At = api.Tri{X: numberOf(words[5]), Y: numberOf(words[6]), K: oneOf(words[7], "s", "e", "n", "w")}
	}
	return f
}

func lineOf(way, c string) api.Line {
	ways := []string{api.Upright: "x", api.Level: "y", api.Falling: "x+y", api.Rising: "x-y"}
	return api.Line{Way: oneOf(way, ways...), C: numberOf(c)}
}

// oneOf some words: which of them, from 0 on.
func oneOf(word string, some ...string) int {
	n := slices.Index(some, word)
	refuse(n < 0, api.ErrForm)
	return n
}

// numberOf a word, with `-` ahead or not.
func numberOf(word string) int {
	digits, below := strings.CutPrefix(word, "-")
	n, ok := lines.Number(digits)
	refuse(!ok, api.ErrForm)
	if below {
		return -n
	}
	return n
}
