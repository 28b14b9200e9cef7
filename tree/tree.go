// Package tree: modules as text.
package tree

import (
	"marquetry/api"
)

// Text writes an expression (of what Parse told).
func Text(x *api.Expr) (_ string) {
	return string(addExpr(nil, x))
}

// Print writes a module (of what Parse told), a line each.
func Print(m api.Module) (_ string) {
	return string(addModule(nil, m))
}

// Parse reads a module. ErrForm, ErrLimit, ErrRange: an At at the byte.
func Parse(s string) (m api.Module, err error) {
	defer func() {
		if r := recover(); r != nil {
			m, err = api.Module{}, caught(r)
		}
	}()
	p := parser{tokens: scan(s), kept: keptWords()}
	return p.module(), nil
}
