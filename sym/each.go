package sym

import (
	"marquetry/api"
)

// eachExpr shows each expression of a module, and each that lies in one.
func eachExpr(m api.Module, show func(*api.Expr)) {
	for _, c := range m.Procs {
		eachOfStmts(c.Body, show)
	}
	eachOfStmts(m.Body, show)
}

// eachOfStmts shows each expression of statements.
func eachOfStmts(l []api.Stmt, show func(*api.Expr)) {
	for _, s := range l {
		eachWithin(s.Index, show)
		eachWithin(s.Value, show)
		eachOfStmts(s.Then, show)
		eachOfStmts(s.Else, show)
	}
}

// eachWithin shows an expression, and each that lies in it. Not every statement has an Index, nor every expression a Left and a Right.
func eachWithin(x *api.Expr, show func(*api.Expr)) {
	if x == nil {
		return
	}
	show(x)
	eachWithin(x.Left, show)
	eachWithin(x.Right, show)
	for _, a := range x.Args {
		eachWithin(a, show)
	}
}

// isRef says whether an expression names something.
func isRef(x *api.Expr) bool {
	return x.Code == api.Var || x.Code == api.Item || x.Code == api.Apply
}
