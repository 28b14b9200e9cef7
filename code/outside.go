package code

import (
	"marquetry/api"
	"marquetry/sym"
)

// maxNames is how many names a Use may have (package obj, which asks for it, lies below this one).
const maxNames = 100

// outside is a module's object without its code: all that others ask about, and all that code names by numbers.
func outside(m api.Module, seen map[string][]api.Sym) *api.Object {
	o := &api.Object{Name: m.Name, Syms: sym.Of(m)}
	for _, name := range m.Imports {
		o.Uses = append(o.Uses, use(name, seen[name], sym.Used(m, name)))
	}
	for _, g := range m.Vars {
		g.At = 0 // where it stood in the text is nothing that code does
		o.Vars = append(o.Vars, g)
	}
	for _, c := range m.Procs {
		o.Names = append(o.Names, c.Name)
	}
	return o
}

// use is an import, of which those names are used. Others never see so much of one module that it is too much, but seen may have been put together in another way.
func use(name string, seen []api.Sym, used []string) api.Use {
	if len(used) > maxNames {
		panic(api.ErrLimit)
	}
	return api.Use{Name: name, Need: sym.Needs(seen, used), Names: used}
}
