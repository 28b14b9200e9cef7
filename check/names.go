package check

import (
	"marquetry/api"
	"marquetry/sym"
)

// thing is what a name stands for: a variable (args below 0), and how many numbers it has if it is an array, or a procedure, and how many parameters it has.
type thing struct {
	len, args int
}

// number is a variable that is no array.
func number() thing { return thing{args: -1} }

// imported are those that a module imports, and what it sees of each: it may not see others, even if they are there.
func imported(m api.Module, seen map[string][]api.Sym) map[string][]api.Sym {
	others := map[string][]api.Sym{}
	for _, name := range m.Imports {
		if _, ahead := others[name]; ahead || name == m.Name {
			panic(api.ErrOrder)
		}
		l, there := seen[name]
		if !there {
			panic(api.ErrNone)
		}
		others[name] = l
	}
	return others
}

// globals are a module's own variables and procedures. All of them are there ahead of what is done: procedures may name those behind them.
func globals(m api.Module) map[string]thing {
	all := map[string]thing{}
	for _, g := range m.Vars {
		add(all, g.Name, thing{len: g.Len, args: -1}, g.At)
	}
	for _, c := range m.Procs {
		add(all, c.Name, thing{args: len(c.Params)}, c.At)
	}
	return all
}

// locals are a procedure's parameters and its own variables. These have no places of their own: what is wrong is at the procedure.
func locals(c api.Proc) map[string]thing {
	own := map[string]thing{}
	for _, name := range c.Params {
		add(own, name, number(), c.At)
	}
	for _, name := range c.Vars {
		add(own, name, number(), c.At)
	}
	return own
}

// add lays a name beside those ahead of it.
func add(l map[string]thing, name string, x thing, place int) {
	if _, ahead := l[name]; ahead {
		throw(api.ErrTwice, place)
	}
	l[name] = x
}

// find looks for what a name stands for; the error tells why it stands for nothing.
type find func(module, name string) (thing, api.Errno)

// finder looks with a module in what is seen of others, and without one in what is near, the nearest first.
func finder(others map[string][]api.Sym, near ...map[string]thing) find {
	return func(module, name string) (thing, api.Errno) {
		if module != "" {
			return findSeen(others, module, name)
		}
		for _, l := range near {
			if x, there := l[name]; there {
				return x, api.OK
			}
		}
		return thing{}, api.ErrMissing
	}
}

// findSeen looks in what is seen of those that are imported.
func findSeen(others map[string][]api.Sym, module, name string) (thing, api.Errno) {
	l, there := others[module]
	if !there {
		return thing{}, api.ErrName
	}
	i := sym.Find(l, name)
	if i < 0 {
		return thing{}, api.ErrMissing
	}
	return thing{len: l[i].Len, args: l[i].Args}, api.OK
}
