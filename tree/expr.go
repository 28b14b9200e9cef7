package tree

import (
	"math"

	"marquetry/api"
)

// expr reads an EXPR.
func (p *parser) expr() *api.Expr { return p.level(0) }

// level reads what marks of a level, and of those that hold more, put together.
func (p *parser) level(n int) *api.Expr {
	if n == oneLevel {
		return p.one()
	}
	// The first token may be a `(`: then what stands in the bracket begins later.
	at := p.now().at
	x := p.level(n + 1)
	for levelOf(p.now().text) == n {
		op := p.now().text
		p.step()
		x = &api.Expr{Code: api.Bin, At: at, Op: op, Left: x, Right: p.level(n + 1)}
	}
	return x
}

// one reads a ONE.
func (p *parser) one() *api.Expr {
	if p.ones > api.MaxDepth {
		p.wrong(api.ErrLimit)
	}
	t := p.now()
	switch {
	case t.kind == number:
		return &api.Expr{Code: api.Num, At: t.at, N: p.number(math.MaxInt64)}
	case p.take("-"), p.take("not"):
		return &api.Expr{Code: api.Un, At: t.at, Op: t.text, Left: p.within(p.one)}
	case p.take("("):
		x := p.within(p.expr)
		p.want(")")
		return x
	}
	return p.named()
}

// within reads what lies in one thing more.
func (p *parser) within(read func() *api.Expr) *api.Expr {
	p.ones++
	x := read()
	p.ones--
	return x
}

// named reads a REF, with an EXPR in brackets, or arguments, if they come.
func (p *parser) named() *api.Expr {
	x := &api.Expr{Code: api.Var, At: p.now().at, Name: p.name()}
	if p.take(".") {
		x.Module, x.Name = x.Name, p.name()
	}
	if p.take("[") {
		x.Code, x.Left = api.Item, p.within(p.expr)
		p.want("]")
	} else if p.take("(") {
		x.Code, x.Args = api.Apply, p.args()
		p.want(")")
	}
	return x
}

// args reads arguments, or none.
func (p *parser) args() []*api.Expr {
	if p.is(")") {
		return nil
	}
	l := []*api.Expr{p.within(p.expr)}
	for p.take(",") {
		l = append(l, p.within(p.expr))
	}
	return l
}
