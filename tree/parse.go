package tree

import (
	"marquetry/api"
)

// parser reads tokens from the left.
type parser struct {
	tokens []token
	next   int            // which token comes
	kept   map[string]int // words that are no names
	ones   int            // how many `-`, `not`, `(`, `[` and arguments are about what is read
	blocks int            // how many `while`, `if` and `elsif` are
}

// now is the token that comes.
func (p *parser) now() token { return p.tokens[p.next] }

// wrong throws an error at the token that comes.
func (p *parser) wrong(e api.Errno) { throw(e, p.now().at) }

// is says whether that token comes. (No word, number or mark is written as one of another kind, and none is empty.)
func (p *parser) is(text string) bool { return p.now().text == text }

// step goes behind the token that comes: its place.
func (p *parser) step() int {
	at := p.now().at
	if p.now().kind != atEnd {
		p.next++
	}
	return at
}

// take goes behind that token, if it comes.
func (p *parser) take(text string) bool {
	if !p.is(text) {
		return false
	}
	p.step()
	return true
}

// want goes behind that token, which must come: its place.
func (p *parser) want(text string) int {
	if !p.is(text) {
		p.wrong(api.ErrForm)
	}
	return p.step()
}

// name reads a NAME.
func (p *parser) name() string {
	t := p.now()
	if t.kind != word || p.kept[t.text] != 0 {
		p.wrong(api.ErrForm)
	}
	if len(t.text) > api.MaxName {
		p.wrong(api.ErrLimit)
	}
	p.step()
	return t.text
}

// names reads NAMES, of which there were some already, and may be so many in all.
func (p *parser) names(had, most int) []string {
	var l []string
	for {
		if had+len(l) >= most {
			p.wrong(api.ErrLimit)
		}
		l = append(l, p.name())
		if !p.take(",") {
			return l
		}
	}
}

// number reads a NUMBER that may be at most so great.
func (p *parser) number(most int64) int64 {
	t := p.now()
	if t.kind != number {
		p.wrong(api.ErrForm)
	}
	n := int64(0)
	for i := range len(t.text) {
		d := int64(t.text[i] - '0')
		if d > most || n > (most-d)/10 {
			p.wrong(api.ErrLimit)
		}
		n = n*10 + d
	}
	p.step()
	return n
}

// module reads a MODULE, behind which nothing may stand.
func (p *parser) module() (m api.Module) {
	p.want("module")
	m.Name = p.name()
	p.want(";")
	if p.take("import") {
		m.Imports = p.names(0, api.MaxImports)
		p.want(";")
	}
	for p.take("var") {
		if len(m.Vars) == api.MaxVars {
			p.wrong(api.ErrLimit)
		}
		m.Vars = append(m.Vars, p.global())
	}
	for p.is("proc") {
		if len(m.Procs) == api.MaxProcs {
			p.wrong(api.ErrLimit)
		}
		m.Procs = append(m.Procs, p.proc())
	}
	p.want("begin")
	m.Body = p.stmts()
	p.want("end")
	p.want(".")
	if p.now().kind != atEnd {
		p.wrong(api.ErrForm)
	}
	return m
}

// global reads a VAR behind its `var`.
func (p *parser) global() (g api.Global) {
	g.At = p.now().at
	g.Name = p.name()
	g.Seen = p.take("*")
	p.want(":")
	if !p.take("int") {
		p.want("array")
		g.Len = int(p.number(api.MaxArray))
		if g.Len == 0 {
			p.wrong(api.ErrRange)
		}
	}
	p.want(";")
	return g
}

// proc reads a PROC.
func (p *parser) proc() (c api.Proc) {
	c.At = p.want("proc")
	c.Name = p.name()
	c.Seen = p.take("*")
	p.want("(")
	if !p.is(")") {
		c.Params = p.names(0, api.MaxVars)
	}
	p.want(")")
	p.want(";")
	if p.take("var") {
		c.Vars = p.names(len(c.Params), api.MaxVars)
		p.want(";")
	}
	p.want("begin")
	c.Body = p.stmts()
	p.want("end")
	p.want(";")
	return c
}
