package vm

import (
	"slices"

	"marquetry/api"
	"marquetry/sym"
)

// fits says what is wrong with what an object uses, Use by Use: it is not there, or not so.
func (m *Machine) fits(o *api.Object) error {
	for _, u := range o.Uses {
		p := m.there[u.Name]
		if p == nil {
			return api.ErrNone
		}
		if !meets(p.Object, u) {
			return api.ErrState
		}
	}
	return nil
}

// meets says whether what a Use needs is so in the object that it names.
func meets(o *api.Object, u api.Use) bool { return sym.Needs(o.Syms, u.Names) == u.Need }

// leadsBack says whether something that an object uses leads to it by what objects use now. Each is gone through once: one may be used in many ways, several times by the same object, too.
func (m *Machine) leadsBack(o *api.Object) bool {
	passed := map[string]int{}
	var leads func(api.Use) bool
	leads = func(u api.Use) bool {
		if u.Name == o.Name {
			return true
		}
		passed[u.Name]++
		return passed[u.Name] == 1 && slices.ContainsFunc(m.there[u.Name].Uses, leads)
	}
	return slices.ContainsFunc(o.Uses, leads)
}

// isMissed says whether one that is there would not find in an object what it needs of it.
func (m *Machine) isMissed(o *api.Object) bool {
	misses := func(u api.Use) bool { return u.Name == o.Name && !meets(o, u) }
	for _, p := range m.there {
		if slices.ContainsFunc(p.Uses, misses) {
			return true
		}
	}
	return false
}
