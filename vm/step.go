package vm

import (
	"marquetry/api"
)

// step does an instruction. (Behind the last one of an object nothing is ever next: that one goes elsewhere, or ends.)
func (g *going) step() {
	f := g.last()
	x := f.in.Code[f.at]
	f.at++
	switch x.Op {
	case api.Push:
		g.put(x.A)
	case api.Pop:
		g.take()
	case api.Load, api.Store:
		g.local(x)
	case api.Get:
		g.give(g.reached(x), 0)
	case api.GetAt:
		if k, ok := g.take(); ok {
			g.give(g.reached(x), k)
		}
	case api.Put:
		if n, ok := g.take(); ok {
			g.set(f.in.vars[x.A], 0, n)
		}
	case api.PutAt:
		if k, n, ok := g.takeTwo(); ok {
			g.set(f.in.vars[x.A], k, n)
		}
	case api.Do:
		g.do(x.A)
	case api.Neg, api.Not:
		g.single(x.Op)
	case api.Jump:
		f.at = int(x.A)
	case api.Else:
		if n, ok := g.take(); ok && n == 0 {
			f.at = int(x.A)
		}
	case api.Invoke:
		g.invoke(x)
	case api.Leave:
		g.leave()
	case api.Say:
		g.say()
	case api.Halt:
		g.way = api.Done
	}
}
