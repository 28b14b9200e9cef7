package obj

import (
	"marquetry/api"
)

// reader reads an object from the left. What is not there, and of what there is too much, it throws: reading goes some calls deep, and the first such thing ends it all.
type reader struct {
	rest string
}

// read reads an object with which a text begins. Whether it may be, and is written so, is for the caller to say.
func read(s string) (o *api.Object, err error) {
	defer func() {
		if r := recover(); r != nil {
			o, err = nil, caught(r)
		}
	}()
	r := reader{rest: s}
	return r.object(), nil
}

// take reads so many bytes.
func (r *reader) take(n int) string {
	if n > len(r.rest) {
		panic(api.ErrForm)
	}
	s := r.rest[:n]
	r.rest = r.rest[n:]
	return s
}

// number reads a number.
func (r *reader) number() int64 {
	u, bits := uint64(0), 0
	for {
		b := r.take(1)[0]
		u |= uint64(b&127) << bits
		if b < 128 {
			break
		}
		bits += 7
	}
	n := int64(u >> 1)
	if u&1 == 1 {
		n = ^n
	}
	return n
}

// int reads a number, too.
func (r *reader) int() int { return int(r.number()) }

// many reads how many there are: at most so many may be.
func (r *reader) many(most int) int {
	n := r.number()
	if n < 0 || n > int64(most) {
		panic(api.ErrForm)
	}
	return int(n)
}

// text reads a text. It has no more bytes than there are.
func (r *reader) text() string { return r.take(r.many(len(r.rest))) }

// flag reads a flag.
func (r *reader) flag() bool { return r.take(1) != "\x00" }

// list reads how many there are, and they.
func list[T any](r *reader, most int, one func() T) []T {
	var l []T
	for range r.many(most) {
		l = append(l, one())
	}
	return l
}

// object reads all there is of an object.
func (r *reader) object() *api.Object {
	o := &api.Object{Name: r.text()}
	o.Syms = list(r, maxSyms, r.sym)
	o.Uses = list(r, api.MaxImports, r.use)
	o.Vars = list(r, api.MaxVars, r.global)
	o.Names = list(r, api.MaxProcs, r.text)
	for range o.Names {
		o.Procs = append(o.Procs, r.entry())
	}
	o.Code = list(r, api.MaxCode, r.inst)
	return o
}

// What follows leans on a literal's calls being done from the left: so are the parts written.

func (r *reader) sym() api.Sym { return api.Sym{Name: r.text(), Len: r.int(), Args: r.int()} }

func (r *reader) use() api.Use {
	return api.Use{Name: r.text(), Need: r.text(), Names: list(r, maxNames, r.text)}
}

func (r *reader) global() api.Global {
	return api.Global{Name: r.text(), Len: r.int(), Seen: r.flag()}
}

func (r *reader) entry() api.Entry { return api.Entry{At: r.int(), Args: r.int(), Locals: r.int()} }

func (r *reader) inst() api.Inst { return api.Inst{Op: r.int(), A: r.number(), B: r.number()} }

// caught tells what was thrown. Nothing but an Errno is thrown on purpose; should anything else ever be, Parse still may not panic.
func caught(r any) error {
	if e, ok := r.(api.Errno); ok {
		return e
	}
	return api.ErrForm
}
