package opt

import (
	"marquetry/api"
)

// laid is code that is laid anew, from the first instruction on. Where its instructions go to is told by the numbers of the old ones.
type laid struct {
	code []api.Inst
	next int              // the number of the old one that comes next
	free func(n int) bool // whether nothing goes on in the midst of the last n, so that they are one thing to all else
}

// squeeze leaves out what is never done, and writes shorter what stands together.
func (w *work) squeeze(all *marks) {
	var place [api.MaxCode]int // where what an instruction did is done now
	var l laid
	edge := 0 // the last place at which something goes on that does not stand right ahead of it
	l.free = func(n int) bool { return len(l.code)-n >= edge }
	for i, x := range w.Code {
		place[i], l.next = len(l.code), i+1
		if all[i]&aimed != 0 {
			edge = place[i]
		}
		if all[i]&reached != 0 && !w.idle(i) {
			l.add(x)
		}
	}
	for i, x := range l.code {
		if goesTo(x) {
			l.code[i].A = int64(place[x.A])
		}
	}
	for i, e := range w.Procs {
		w.Procs[i].At = place[e.At]
	}
	w.Code = l.code
}

// add lays an instruction behind all others. If what stands last then may be written shorter, that is laid in its place, an instruction each: each may be written shorter with what stands ahead of it.
func (l *laid) add(x api.Inst) {
	l.code = append(l.code, x)
	for n := 2; n <= longest && l.free(n); n++ {
		ahead := len(l.code) - n
		if by, ok := shorter(l.code[ahead:], l.next); ok {
			l.code = l.code[:ahead]
			for _, y := range by {
				l.add(y)
			}
			return
		}
	}
}
