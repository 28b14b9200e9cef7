package tree

import (
	"marquetry/api"
)

// stmts reads STMTs up to a word that may end them; whether it may end these is for the caller to say.
func (p *parser) stmts() []api.Stmt {
	if p.blocks > api.MaxDepth {
		p.wrong(api.ErrLimit)
	}
	var l []api.Stmt
	for !p.is("end") && !p.is("elsif") && !p.is("else") {
		l = append(l, p.stmt())
	}
	return l
}

// stmt reads a STMT.
func (p *parser) stmt() api.Stmt {
	switch p.now().text {
	case "return":
		return p.telling(api.Return)
	case "write":
		return p.telling(api.Write)
	case "while":
		return p.closed(p.block(api.While, "do"))
	case "if":
		return p.closed(p.branch())
	}
	return p.setOrCall()
}

// telling reads a word, and an EXPR.
func (p *parser) telling(code int) api.Stmt {
	s := api.Stmt{Code: code, At: p.step()}
	s.Value = p.expr()
	p.want(";")
	return s
}

// closed reads what ends a statement that others lie in.
func (p *parser) closed(s api.Stmt) api.Stmt {
	p.want("end")
	p.want(";")
	return s
}

// block reads a word, an EXPR, the word behind it, and the STMTs that lie in both.
func (p *parser) block(code int, behind string) api.Stmt {
	s := api.Stmt{Code: code, At: p.step()}
	s.Value = p.expr()
	p.want(behind)
	p.blocks++
	s.Then = p.stmts()
	p.blocks--
	return s
}

// branch reads from an `if` or `elsif` up to the `end` that both share; what stands in Else lies in it, too.
func (p *parser) branch() api.Stmt {
	s := p.block(api.If, "then")
	p.blocks++
	if p.is("elsif") {
		s.Else = []api.Stmt{p.branch()}
	} else if p.take("else") {
		s.Else = p.stmts()
	}
	p.blocks--
	return s
}

// setOrCall reads a STMT that begins with a REF. Which of both it is shows only behind that.
func (p *parser) setOrCall() api.Stmt {
	at := p.now().at
	x := p.named()
	if x.Code == api.Apply {
		p.want(";")
		return api.Stmt{Code: api.Call, At: at, Value: x}
	}
	if x.Module != "" {
		p.wrong(api.ErrForm)
	}
	p.want(":=")
	s := api.Stmt{Code: api.Set, At: at, Name: x.Name, Index: x.Left, Value: p.expr()}
	p.want(";")
	return s
}
