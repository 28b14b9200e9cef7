package shop

import (
	"slices"

	"marquetry/api"
)

// copied is an object that shares no memory with this one: what is handed out is the caller's, who may write into it.
func copied(o *api.Object) *api.Object {
	c := *o
	c.Syms = slices.Clone(o.Syms)
	c.Uses = slices.Clone(o.Uses)
	for i, u := range c.Uses {
		c.Uses[i].Names = slices.Clone(u.Names)
	}
	c.Vars = slices.Clone(o.Vars)
	c.Procs = slices.Clone(o.Procs)
	c.Names = slices.Clone(o.Names)
	c.Code = slices.Clone(o.Code)
	return &c
}
