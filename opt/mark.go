package opt

import (
	"marquetry/api"
)

// mark is what is known of an instruction.
type mark uint8

const (
	reached mark = 1 << iota // it may be done
	aimed                    // something goes on at it that does not stand right ahead of it
)

// marks are those of all instructions.
type marks [api.MaxCode]mark

// marked goes through all code that may be done: from the first instruction on, and from where each procedure begins (others may call it, even if they do not see it).
func (w *work) marked() *marks {
	var all marks
	todo := []int{0}
	aim := func(at int) {
		all[at] |= aimed
		todo = append(todo, at)
	}
	for _, e := range w.Procs {
		aim(e.At)
	}
	for len(todo) > 0 {
		at := todo[len(todo)-1]
		todo = todo[:len(todo)-1]
		for goes := true; goes && all[at]&reached == 0; at++ {
			all[at] |= reached
			x := w.Code[at]
			if goesTo(x) && !w.idle(at) {
				aim(int(x.A))
			}
			goes = !ends(x) && (x.Op != api.Jump || w.idle(at))
		}
	}
	return &all
}

// idle says whether an instruction only goes on to the next one.
func (w *work) idle(i int) bool { return w.Code[i] == jump(i+1) }
