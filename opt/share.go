package opt

import (
	"marquetry/api"
)

// share lets what is done ahead of a Jump, and stands ahead of where it goes, too, be done there. As the Jump then comes first, nothing may end in between: it would end later. (From behind, so that all that is alike is shared.)
func (w *work) share() {
	for i := len(w.Code) - 2; i >= 0; i-- {
		x, next := w.Code[i], w.Code[i+1]
		if next.Op != api.Jump || next.A == 0 || !goesOn(x) {
			continue
		}
		if to := int(next.A) - 1; to != i && w.Code[to] == x {
			w.Code[i] = jump(to)
		}
	}
}
