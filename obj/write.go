package obj

import (
	"marquetry/api"
)

// writer writes an object that is right.
type writer struct {
	bytes []byte
}

// number writes numbers, each seven bits a byte, the least ones first. The sign is the least bit, so that small numbers below 0 are short, too.
func (w *writer) number(l ...int64) {
	for _, n := range l {
		u := uint64(n) << 1
		if n < 0 {
			u = ^u
		}
		for ; u >= 128; u >>= 7 {
			w.bytes = append(w.bytes, byte(u)|128)
		}
		w.bytes = append(w.bytes, byte(u))
	}
}

// many writes how many there are.
func (w *writer) many(n int) { w.number(int64(n)) }

// text writes a text.
func (w *writer) text(s string) {
	w.many(len(s))
	w.bytes = append(w.bytes, s...)
}

// names writes how many names there are, and they.
func (w *writer) names(l []string) {
	w.many(len(l))
	for _, s := range l {
		w.text(s)
	}
}

// flag writes a flag.
func (w *writer) flag(is bool) {
	if is {
		w.bytes = append(w.bytes, 1)
	} else {
		w.bytes = append(w.bytes, 0)
	}
}

// head writes all but procedures and code.
func (w *writer) head(o *api.Object) {
	w.text(o.Name)
	w.many(len(o.Syms))
	for _, s := range o.Syms {
		w.text(s.Name)
		w.number(int64(s.Len), int64(s.Args))
	}
	w.many(len(o.Uses))
	for _, u := range o.Uses {
		w.text(u.Name)
		w.text(u.Need)
		w.names(u.Names)
	}
	w.many(len(o.Vars))
	for _, g := range o.Vars {
		w.text(g.Name)
		w.number(int64(g.Len))
		w.flag(g.Seen)
	}
}

// code writes procedures (there are as many as names), and code.
func (w *writer) code(o *api.Object) {
	w.names(o.Names)
	for _, e := range o.Procs {
		w.number(int64(e.At), int64(e.Args), int64(e.Locals))
	}
	w.many(len(o.Code))
	for _, x := range o.Code {
		w.number(int64(x.Op), x.A, x.B)
	}
}
