package run

import (
	"marquetry/api"
)

// going is what goes on from when Load or Call was asked until it ends.
type going struct {
	there map[string]*loaded
	left  int // how many steps may still be done
	waits int // how many procedures wait
	out   []int64
}

// goes does something: how it ended, and what was told.
func (w *World) goes(fuel int, do func(*going)) (e api.End) {
	g := &going{there: w.there, left: fuel}
	defer func() {
		e = api.End{Way: way(recover()), Out: g.out}
	}()
	do(g)
	return e
}

// step is one step more.
func (g *going) step() {
	if g.left <= 0 {
		panic(end(api.Fuel))
	}
	g.left--
}

// tell tells a number.
func (g *going) tell(n int64) {
	if len(g.out) == api.MaxOut {
		panic(end(api.Full))
	}
	g.out = append(g.out, n)
}

// call does a procedure: what it tells. (If it ends all, nobody asks any more how many wait.)
func (g *going) call(l *loaded, name string, args []int64) int64 {
	c := l.proc(name)
	if g.waits == api.MaxCalls {
		panic(end(api.Deep))
	}
	own := map[string]int64{}
	for i, name := range c.Params {
		own[name] = args[i]
	}
	for _, name := range c.Vars {
		own[name] = 0
	}
	g.waits++
	in := scope{going: g, in: l, own: own}
	n := in.body(c.Body)
	g.waits--
	return n
}
