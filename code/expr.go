package code

import (
	"slices"

	"marquetry/api"
)

// expr lays an expression. It leaves one number on the stack.
func (w *writer) expr(x *api.Expr) {
	switch x.Code {
	case api.Num:
		w.push(x.N)
	case api.Var:
		w.value(x)
	case api.Item:
		w.expr(x.Left)
		w.reach(api.GetAt, x)
	case api.Un:
		w.single(x)
	case api.Bin:
		w.pair(x)
	case api.Apply:
		for _, a := range x.Args {
			w.expr(a)
		}
		w.reach(api.Invoke, x)
	}
}

// value lays a Var. Those of a procedure hide those of its module, but not those of others.
func (w *writer) value(x *api.Expr) {
	if i := slices.Index(w.own, x.Name); i >= 0 && x.Module == "" {
		w.add(api.Inst{Op: api.Load, A: int64(i)})
		return
	}
	w.reach(api.Get, x)
}

// reach lays an instruction that reaches for what an expression names: in the module itself, or in one that it uses.
func (w *writer) reach(op int, x *api.Expr) {
	of := slices.IndexFunc(w.Uses, func(u api.Use) bool { return u.Name == x.Module })
	switch {
	case of >= 0:
		w.add(api.Inst{Op: op, A: int64(slices.Index(w.Uses[of].Names, x.Name)), B: int64(of)})
	case op == api.Invoke:
		w.add(api.Inst{Op: op, A: int64(slices.Index(w.Names, x.Name)), B: -1})
	default:
		w.add(api.Inst{Op: op, A: w.variable(x.Name), B: -1})
	}
}

// variable is the number of one of the module's own variables.
func (w *writer) variable(name string) int64 {
	return int64(slices.IndexFunc(w.Vars, func(g api.Global) bool { return g.Name == name }))
}

// single lays a mark of one.
func (w *writer) single(x *api.Expr) {
	w.expr(x.Left)
	if x.Op == "not" {
		w.bare(api.Not)
	} else {
		w.bare(api.Neg)
	}
}

// pair lays a mark of two.
func (w *writer) pair(x *api.Expr) {
	w.expr(x.Left)
	switch x.Op {
	case "and":
		w.and(x.Right)
	case "or":
		w.or(x.Right)
	default:
		w.expr(x.Right)
		w.add(api.Inst{Op: api.Do, A: mark(x.Op)})
	}
}

// and lays what stands behind the left side of an `and`: 0, if that is 0, else the right side's truth.
func (w *writer) and(right *api.Expr) {
	no := w.away(api.Else)
	w.truth(right)
	end := w.away(api.Jump)
	w.land(no)
	w.push(0)
	w.land(end)
}

// or lays what stands behind the left side of an `or`: the right side's truth, if that is 0, else 1.
func (w *writer) or(right *api.Expr) {
	open := w.away(api.Else)
	w.push(1)
	end := w.away(api.Jump)
	w.land(open)
	w.truth(right)
	w.land(end)
}

// truth lays an expression of which no more is asked than whether it is not 0: 1 or 0.
func (w *writer) truth(x *api.Expr) {
	w.expr(x)
	w.bare(api.Not)
	w.bare(api.Not)
}

// mark is the number of a mark of two; below 0: it is none.
func mark(op string) int64 {
	for i, s := range Marks {
		if s == op {
			return int64(i)
		}
	}
	return -1
}
