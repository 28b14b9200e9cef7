package run

import (
	"slices"

	"marquetry/api"
	"marquetry/sym"
)

// loaded is a module that is there, and what its variables have: an array its numbers, any other one a list of one.
type loaded struct {
	api.Module
	vars map[string][]int64
}

// fresh is a module whose variables are all 0.
func fresh(m api.Module) *loaded {
	l := &loaded{Module: m, vars: map[string][]int64{}}
	for _, g := range m.Vars {
		l.vars[g.Name] = make([]int64, max(g.Len, 1))
	}
	return l
}

// keeping takes over what variables of the same name and length had. An array of one is as long as a number in vars, but is none: their Lens tell.
func (l *loaded) keeping(was *loaded) *loaded {
	for _, g := range l.Vars {
		same := func(o api.Global) bool { return o.Name == g.Name && o.Len == g.Len }
		if slices.ContainsFunc(was.Vars, same) {
			l.vars[g.Name] = was.vars[g.Name]
		}
	}
	return l
}

// proc looks for a procedure; nil: there is none.
func (l *loaded) proc(name string) *api.Proc {
	i := slices.IndexFunc(l.Procs, func(c api.Proc) bool { return c.Name == name })
	if i < 0 {
		return nil
	}
	return &l.Procs[i]
}

// add lays a module behind those that are there.
func (w *World) add(l *loaded) {
	if w.there == nil {
		w.there = map[string]*loaded{}
	}
	w.there[l.Name] = l
	w.names = append(w.names, l.Name)
}

// seen is what others see of all modules that are there.
func (w *World) seen() map[string][]api.Sym {
	all := map[string][]api.Sym{}
	for _, name := range w.names {
		all[name] = sym.Of(w.there[name].Module)
	}
	return all
}

// leads says whether a module is another one, or leads to it by what modules import. It ends: those that are there lead to none that leads back, as neither Load nor Swap lets one in that would.
func (w *World) leads(from, to string) bool {
	return from == to || slices.ContainsFunc(w.there[from].Imports, func(name string) bool { return w.leads(name, to) })
}

// needsOther says whether what a module uses of one that is there is not so in the one that comes.
func (w *World) needsOther(name string, was, comes api.Module) bool {
	used := sym.Used(w.there[name].Module, was.Name)
	return sym.Needs(sym.Of(comes), used) != sym.Needs(sym.Of(was), used)
}
