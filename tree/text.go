package tree

import (
	"strconv"

	"marquetry/api"
)

// addExpr adds an expression to a text.
func addExpr(b []byte, x *api.Expr) []byte {
	if x == nil {
		return b
	}
	switch x.Code {
	case api.Num:
		return strconv.AppendInt(b, x.N, 10)
	case api.Var:
		return addRef(b, x)
	case api.Item:
		b = append(addRef(b, x), '[')
		return append(addExpr(b, x.Left), ']')
	case api.Apply:
		b = append(addRef(b, x), '(')
		return append(addArgs(b, x.Args), ')')
	case api.Un:
		b = append(b, x.Op...)
		if x.Op == "not" {
			b = append(b, ' ')
		}
		return addHeld(b, x.Left, oneLevel)
	case api.Bin:
		n := levelOf(x.Op)
		b = addHeld(b, x.Left, n)
		b = append(b, ' ')
		b = append(b, x.Op...)
		b = append(b, ' ')
		return addHeld(b, x.Right, n+1)
	}
	return b
}

// addHeld adds an expression, with brackets about it if it holds less than the level that is asked for there.
func addHeld(b []byte, x *api.Expr, level int) []byte {
	if x == nil || x.Code != api.Bin || levelOf(x.Op) >= level {
		return addExpr(b, x)
	}
	return append(addExpr(append(b, '('), x), ')')
}

// addRef adds a REF.
func addRef(b []byte, x *api.Expr) []byte {
	if x.Module != "" {
		b = append(append(b, x.Module...), '.')
	}
	return append(b, x.Name...)
}

// addArgs adds arguments.
func addArgs(b []byte, l []*api.Expr) []byte {
	for i, x := range l {
		if i > 0 {
			b = append(b, ", "...)
		}
		b = addExpr(b, x)
	}
	return b
}
