package code_test

import (
	"slices"

	"marquetry/api"
	"marquetry/code"
	"marquetry/run"
)

// machine has objects that go, as chapter 8 tells it; whether they fit each other it does not ask.
type machine map[string]*placed

// placed is an object, and what its variables have.
type placed struct {
	*api.Object
	vars [][]int64
}

// frame is a procedure that goes (or Load's own code): where, its locals, how much lay on the stack ahead of it.
type frame struct {
	in     *placed
	at     int
	locals []int64
	base   int
}

// trip is what goes on until it ends.
type trip struct {
	machine
	frames []frame
	procs  int // how many procedures go
	stack  []int64
	most   int // how much ever lay on the stack
	done   int // instructions
	out    []int64
	way    int
}

// put lays an object there; what it has of the same length stays.
func (m machine) put(o *api.Object) *placed {
	p := &placed{Object: o}
	for _, g := range o.Vars {
		l := make([]int64, max(1, g.Len))
		if was := m[o.Name]; was != nil {
			if i := slices.IndexFunc(was.Vars, func(h api.Global) bool { return h.Name == g.Name && h.Len == g.Len }); i >= 0 {
				l = was.vars[i]
			}
		}
		p.vars = append(p.vars, l)
	}
	m[o.Name] = p
	return p
}

// load is Load.
func (m machine) load(o *api.Object, fuel int) *trip {
	r := &trip{machine: m, frames: []frame{{in: m.put(o)}}}
	r.goes(fuel)
	return r
}

// call is Call.
func (m machine) call(module, proc string, args []int64, fuel int) *trip {
	in := m[module]
	e := in.Procs[slices.Index(in.Names, proc)]
	locals := append(slices.Clone(args), make([]int64, e.Locals-len(args))...)
	r := &trip{machine: m, frames: []frame{{in: in, at: e.At, locals: locals}}, procs: 1}
	r.goes(fuel)
	return r
}

// end is how it ended.
func (r *trip) end() api.End { return api.End{Way: r.way, Out: r.out} }

// told is the last number on the stack.
func (r *trip) told() int64 {
	if r.way != api.Done || len(r.stack) == 0 {
		return 0
	}
	return r.stack[len(r.stack)-1]
}

// goes does instructions until it ends.
func (r *trip) goes(fuel int) {
	for r.way == 0 {
		if r.done >= fuel {
			r.way = api.Fuel
			return
		}
		r.done++
		f := &r.frames[len(r.frames)-1]
		x := f.in.Code[f.at]
		f.at++
		r.do(f, x)
	}
}

// ends ends it, unless it has ended.
func (r *trip) ends(way int) {
	if r.way == 0 {
		r.way = way
	}
}

// take takes the last number off the stack.
func (r *trip) take() int64 {
	if len(r.stack) == r.frames[len(r.frames)-1].base {
		r.ends(api.Fault)
	}
	if r.way != 0 {
		return 0
	}
	n := r.stack[len(r.stack)-1]
	r.stack = r.stack[:len(r.stack)-1]
	return n
}

// give puts a number on the stack.
func (r *trip) give(n int64) {
	if len(r.stack) == api.MaxStack {
		r.ends(api.Stack)
	}
	if r.way == 0 {
		r.stack = append(r.stack, n)
		r.most = max(r.most, len(r.stack))
	}
}

// item is where number k of a variable lies, which may be another object's.
func (r *trip) item(f *frame, x api.Inst, k int64) *int64 {
	in, i := f.in, int(x.A)
	if x.Op != api.Put && x.Op != api.PutAt && x.B >= 0 {
		u := f.in.Uses[x.B]
		in = r.machine[u.Name]
		i = slices.IndexFunc(in.Vars, func(g api.Global) bool { return g.Name == u.Names[x.A] })
	}
	if i < 0 || k < 0 || k >= int64(len(in.vars[i])) {
		r.ends(api.Bounds)
		return new(int64)
	}
	return &in.vars[i][k]
}

// local is where a local lies.
func (r *trip) local(f *frame, a int64) *int64 {
	if a >= int64(len(f.locals)) {
		r.ends(api.Fault)
		return new(int64)
	}
	return &f.locals[a]
}

// do does an instruction.
func (r *trip) do(f *frame, x api.Inst) {
	switch x.Op {
	case api.Push:
		r.give(x.A)
	case api.Pop:
		r.take()
	case api.Load:
		r.give(*r.local(f, x.A))
	case api.Store:
		l := r.local(f, x.A)
		*l = r.take()
	case api.Get:
		r.give(*r.item(f, x, 0))
	case api.GetAt:
		r.give(*r.item(f, x, r.take()))
	case api.Put:
		n := r.take()
		*r.item(f, x, 0) = n
	case api.PutAt:
		n := r.take()
		*r.item(f, x, r.take()) = n
	case api.Neg:
		r.give(-r.take())
	case api.Not:
		r.not()
	case api.Do:
		r.both(code.Marks[x.A])
	case api.Jump:
		f.at = int(x.A)
	case api.Else:
		if r.take() == 0 {
			f.at = int(x.A)
		}
	case api.Invoke:
		r.invoke(f, x)
	case api.Leave:
		r.leave(f)
	case api.Say:
		r.say(r.take())
	case api.Halt:
		r.ends(api.Done)
	default:
		r.ends(api.Fault)
	}
}

func (r *trip) not() {
	if r.take() == 0 {
		r.give(1)
	} else {
		r.give(0)
	}
}

func (r *trip) both(op string) {
	b := r.take()
	n, ok := run.Both(op, r.take(), b)
	if !ok {
		r.ends(api.Zero)
	}
	r.give(n)
}

func (r *trip) say(n int64) {
	if len(r.out) == api.MaxOut {
		r.ends(api.Full)
	}
	if r.way == 0 {
		r.out = append(r.out, n)
	}
}

func (r *trip) invoke(f *frame, x api.Inst) {
	in, i := f.in, int(x.A)
	if x.B >= 0 {
		in = r.machine[f.in.Uses[x.B].Name]
		i = slices.Index(in.Names, f.in.Uses[x.B].Names[x.A])
	}
	if i < 0 {
		r.ends(api.Fault)
		return
	}
	if r.procs == api.MaxCalls {
		r.ends(api.Deep)
	}
	locals := make([]int64, in.Procs[i].Locals)
	for k := in.Procs[i].Args - 1; k >= 0; k-- {
		locals[k] = r.take()
	}
	r.procs++
	r.frames = append(r.frames, frame{in: in, at: in.Procs[i].At, locals: locals, base: len(r.stack)})
}

func (r *trip) leave(f *frame) {
	n := r.take()
	if r.way != 0 {
		return
	}
	r.stack = r.stack[:f.base]
	if len(r.frames) == 1 {
		r.give(n)
		r.ends(api.Done)
		return
	}
	r.procs--
	r.frames = r.frames[:len(r.frames)-1]
	r.give(n)
}
