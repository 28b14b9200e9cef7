package check

import (
	"marquetry/api"
)

// checkStmts looks at statements, from the left.
func checkStmts(l []api.Stmt, look find) {
	for _, s := range l {
		if s.Code == api.Set {
			checkPlace(s, look)
		}
		checkExpr(s.Index, look)
		checkExpr(s.Value, look)
		checkStmts(s.Then, look)
		checkStmts(s.Else, look)
	}
}

// checkPlace looks at what a Set sets. It names that as an expression would.
func checkPlace(s api.Stmt, look find) {
	x := api.Expr{Code: api.Var, At: s.At, Name: s.Name}
	if s.Index != nil {
		x.Code = api.Item
	}
	checkRef(&x, look)
}

// checkExpr looks at an expression, and then at what lies in it. Not every statement has an Index, nor every expression a Left and a Right.
func checkExpr(x *api.Expr, look find) {
	if x == nil {
		return
	}
	if x.Code == api.Var || x.Code == api.Item || x.Code == api.Apply {
		checkRef(x, look)
	}
	checkExpr(x.Left, look)
	checkExpr(x.Right, look)
	for _, a := range x.Args {
		checkExpr(a, look)
	}
}

// checkRef looks at what a Var, an Item or an Apply names, and whether that is of its kind.
func checkRef(x *api.Expr, look find) {
	is, e := look(x.Module, x.Name)
	if e != api.OK {
		throw(e, x.At)
	}
	if kind(is) != x.Code {
		throw(api.ErrArg, x.At)
	}
	if x.Code == api.Apply && len(x.Args) != is.args {
		throw(api.ErrRange, x.At)
	}
}

// kind is the code of those expressions that may name a thing.
func kind(x thing) int {
	switch {
	case x.args >= 0:
		return api.Apply
	case x.len > 0:
		return api.Item
	}
	return api.Var
}
