package flat

import "pleat/api"

// half of a turn, in eighths of it.
const half = 4

// uneven: can creases in these directions not be folded flat, for their number or their angles? If every other angle is half a turn together, so are the others.
func uneven(dirs []int) bool {
	if len(dirs)%2 != 0 {
		return true
	}
	together := 0
	for i := range len(dirs) / 2 {
		together += dirs[2*i+1] - dirs[2*i]
	}
	return together != half
}

// unbalanced: are there not just two mountains more than valleys, or two fewer?
func unbalanced(kinds []int) bool {
	more := 0
	for _, kind := range kinds {
		if kind == api.Mountain {
			more++
		} else {
			more--
		}
	}
	return more != 2 && more != -2
}
