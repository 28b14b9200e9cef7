package vm

import (
	"slices"

	"marquetry/api"
)

// placed is an object that is there, and what its variables have: an array its numbers, any other one a list of one.
type placed struct {
	*api.Object
	vars [][]int64
}

// fresh is an object whose variables are all 0.
func fresh(o *api.Object) *placed {
	p := &placed{Object: o}
	for _, g := range o.Vars {
		p.vars = append(p.vars, make([]int64, max(g.Len, 1)))
	}
	return p
}

// keeping takes over what variables of the same name and length had. An array of one is as long as a number in vars, but is none: their Lens tell. The numbers are copied, as two variables may be called alike.
func (p *placed) keeping(was *placed) *placed {
	for i, g := range p.Vars {
		same := func(o api.Global) bool { return o.Name == g.Name && o.Len == g.Len }
		if k := slices.IndexFunc(was.Vars, same); k >= 0 {
			copy(p.vars[i], was.vars[k])
		}
	}
	return p
}

// named are the numbers of the first variable that is called so; nil: there is none.
func (p *placed) named(name string) []int64 {
	i := slices.IndexFunc(p.Vars, func(g api.Global) bool { return g.Name == name })
	if i < 0 {
		return nil
	}
	return p.vars[i]
}

// proc is the number of the first procedure that is called so; below 0: there is none.
func (p *placed) proc(name string) int { return slices.Index(p.Names, name) }

// place lays an object there, perhaps in another one's place.
func (m *Machine) place(p *placed) {
	if m.there == nil {
		m.there = map[string]*placed{}
	}
	m.there[p.Name] = p
}
