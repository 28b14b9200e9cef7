package run

import (
	"marquetry/api"
)

// value reckons an expression.
func (s *scope) value(x *api.Expr) int64 {
	switch x.Code {
	case api.Num:
		return x.N
	case api.Var:
		return s.variable(x)
	case api.Item:
		return s.item(x, s.value(x.Left))
	case api.Un:
		return single(x.Op, s.value(x.Left))
	case api.Bin:
		return s.pair(x)
	case api.Apply:
		return s.apply(x)
	}
	return 0
}

// of is the module that a name is of: that in which it stands, or the one that is called so now.
func (s *scope) of(module string) *loaded {
	if module == "" {
		return s.in
	}
	return s.there[module]
}

// variable is what a variable has. Those of a procedure hide those of its module.
func (s *scope) variable(x *api.Expr) int64 {
	if n, own := s.own[x.Name]; own && x.Module == "" {
		return n
	}
	return s.of(x.Module).vars[x.Name][0]
}

// item is number k of an array.
func (s *scope) item(x *api.Expr, k int64) int64 {
	l := s.of(x.Module).vars[x.Name]
	return l[within(l, k)]
}

// within is k, if a list has a number k.
func within(l []int64, k int64) int64 {
	if k < 0 || k >= int64(len(l)) {
		panic(end(api.Bounds))
	}
	return k
}

// pair reckons a mark of two; and, or: the right side only if the left one leaves it open.
func (s *scope) pair(x *api.Expr) int64 {
	a := s.value(x.Left)
	switch x.Op {
	case "and":
		return truth(a != 0 && s.value(x.Right) != 0)
	case "or":
		return truth(a != 0 || s.value(x.Right) != 0)
	}
	n, ok := Both(x.Op, a, s.value(x.Right))
	if !ok {
		panic(end(api.Zero))
	}
	return n
}

// apply calls a procedure: what it tells.
func (s *scope) apply(x *api.Expr) int64 {
	args := make([]int64, len(x.Args))
	for i, a := range x.Args {
		args[i] = s.value(a)
	}
	return s.call(s.of(x.Module), x.Name, args)
}
