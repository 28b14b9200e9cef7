package vm

import (
	"marquetry/api"
)

// frame is a procedure that goes (or what is done when an object is loaded).
type frame struct {
	in     *placed
	at     int // the instruction that is next
	base   int // how many numbers lay on the stack ahead of it, which are not its own
	many   int // how many of the locals it has
	locals [api.MaxVars]int64
}

// entered is a procedure of an object, by its number, ahead of its first instruction. Its locals are 0.
func (p *placed) entered(i int) frame {
	e := p.Procs[i]
	return frame{in: p, at: e.At, many: e.Locals}
}

// going is what goes on from when Load or Call was asked until it ends.
type going struct {
	there  map[string]*placed
	frames []frame // the last one goes, all others wait
	most   int     // how many frames there may be
	stack  []int64
	out    []int64
	way    int // 0: it has not ended
}

// goes does instructions until it ends: how it ended, and what was told.
func (g *going) goes(fuel int) api.End {
	for done := 0; g.way == 0; done++ {
		if done >= fuel {
			g.way = api.Fuel
			break
		}
		g.step()
	}
	return api.End{Way: g.way, Out: g.out}
}

// told is the last number on the stack, if what went is done; else, and if there is none, 0.
func (g *going) told() int64 {
	if g.way != api.Done || len(g.stack) == 0 {
		return 0
	}
	return g.stack[len(g.stack)-1]
}

// last is the frame that goes.
func (g *going) last() *frame { return &g.frames[len(g.frames)-1] }

// put puts a number on the stack.
func (g *going) put(n int64) {
	if len(g.stack) == api.MaxStack {
		g.way = api.Stack
		return
	}
	g.stack = append(g.stack, n)
}

// take takes the last number off the stack; false: the procedure that goes has none there, and all ends.
func (g *going) take() (int64, bool) {
	last := len(g.stack) - 1
	if last < g.last().base {
		g.way = api.Fault
		return 0, false
	}
	n := g.stack[last]
	g.stack = g.stack[:last]
	return n, true
}

// takeTwo takes two numbers, the later one first; they are told as they were put.
func (g *going) takeTwo() (a, b int64, ok bool) {
	if b, ok = g.take(); ok {
		a, ok = g.take()
	}
	return a, b, ok
}
