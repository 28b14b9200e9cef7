package vm

import (
	"marquetry/api"
	"marquetry/code"
	"marquetry/run"
)

// local does a Load or a Store. Whether there is such a local is asked ahead of all else.
func (g *going) local(x api.Inst) {
	f := g.last()
	if x.A >= int64(f.many) {
		g.way = api.Fault
		return
	}
	if x.Op == api.Load {
		g.put(f.locals[x.A])
		return
	}
	if n, ok := g.take(); ok {
		f.locals[x.A] = n
	}
}

// used is the object that an instruction reaches into, and what it names there.
func (g *going) used(x api.Inst) (*placed, string) {
	u := g.last().in.Uses[x.B]
	return g.there[u.Name], u.Names[x.A]
}

// reached are the numbers of the variable that an instruction reaches for, its own object's or another one's; none: that one has no such variable (only what others see of it was asked when they were loaded).
func (g *going) reached(x api.Inst) []int64 {
	if x.B < 0 {
		return g.last().in.vars[x.A]
	}
	p, name := g.used(x)
	return p.named(name)
}

// within says whether a list has a number k; if not, all ends.
func (g *going) within(l []int64, k int64) bool {
	if k >= 0 && k < int64(len(l)) {
		return true
	}
	g.way = api.Bounds
	return false
}

// give puts number k of a list on the stack.
func (g *going) give(l []int64, k int64) {
	if g.within(l, k) {
		g.put(l[k])
	}
}

// set lets number k of a list be n.
func (g *going) set(l []int64, k, n int64) {
	if g.within(l, k) {
		l[k] = n
	}
}

// do reckons a mark of two.
func (g *going) do(mark int64) {
	a, b, ok := g.takeTwo()
	if !ok {
		return
	}
	n, ok := run.Both(code.Marks[mark], a, b)
	if !ok {
		g.way = api.Zero
		return
	}
	g.put(n)
}

// single reckons a Neg or a Not.
func (g *going) single(op int) {
	n, ok := g.take()
	switch {
	case !ok:
	case op == api.Neg:
		g.put(-n)
	case n == 0:
		g.put(1)
	default:
		g.put(0)
	}
}

// invoke begins a procedure, its own object's or another one's.
func (g *going) invoke(x api.Inst) {
	p, i := g.last().in, int(x.A)
	if x.B >= 0 {
		of, name := g.used(x)
		p, i = of, of.proc(name)
	}
	if i < 0 {
		g.way = api.Fault
		return
	}
	if len(g.frames) == g.most {
		g.way = api.Deep
		return
	}
	f := p.entered(i)
	for k := p.Procs[i].Args - 1; k >= 0; k-- {
		n, ok := g.take()
		if !ok {
			return
		}
		f.locals[k] = n
	}
	f.base = len(g.stack)
	g.frames = append(g.frames, f)
}

// leave ends the procedure that goes. (What it tells always has room: it was taken.)
func (g *going) leave() {
	n, ok := g.take()
	if !ok {
		return
	}
	g.stack = g.stack[:g.last().base]
	g.put(n)
	if len(g.frames) == 1 {
		g.way = api.Done
		return
	}
	g.frames = g.frames[:len(g.frames)-1]
}

// say tells a number.
func (g *going) say() {
	n, ok := g.take()
	if !ok {
		return
	}
	if len(g.out) == api.MaxOut {
		g.way = api.Full
		return
	}
	g.out = append(g.out, n)
}
