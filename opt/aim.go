package opt

import (
	"marquetry/api"
)

// far is how many instructions are followed at most: they may go round.
const far = 100

// aim lets all that goes elsewhere go at once to where that leads.
func (w *work) aim() {
	for i := range w.Code {
		w.Code[i] = w.straight(i)
	}
	for i, e := range w.Procs {
		w.Procs[i].At = w.onward(e.At)
	}
}

// straight is an instruction that does at once what it leads to.
func (w *work) straight(i int) api.Inst {
	x := w.Code[i]
	switch x.Op {
	case api.Else:
		x.A = int64(w.onward(int(x.A)))
		if x.A == int64(i+1) {
			return bare(api.Pop)
		}
	case api.Push, api.Jump:
		to := w.onward(i)
		if to == i {
			return x
		}
		if next := w.Code[to]; ends(next) {
			return next
		}
		return jump(to)
	}
	return x
}

// onward is the last place to which code goes from another one without having done anything by then.
func (w *work) onward(at int) int {
	p := path{at: at}
	for range far {
		if !p.put {
			at = p.at
		}
		if !p.follows(w.Code[p.at]) {
			break
		}
	}
	return at
}

// path is a way through code, on which at most one number was put that is not taken yet.
type path struct {
	at  int
	put bool
	n   int64
}

// follows goes on behind an instruction, if that does nothing but to put such a number, or to reckon with it.
func (p *path) follows(x api.Inst) bool {
	switch {
	case x.Op == api.Jump:
		p.at = int(x.A)
		return true
	case x.Op == api.Push && !p.put:
		p.put, p.n = true, x.A
	case !p.put:
		return false
	case x.Op == api.Else && p.n == 0:
		p.put, p.at = false, int(x.A)
		return true
	case x.Op == api.Else, x.Op == api.Pop:
		p.put = false
	case x.Op == api.Neg, x.Op == api.Not:
		p.n = single(x.Op, p.n)
	default:
		return false
	}
	p.at++
	return true
}
