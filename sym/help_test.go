package sym_test

import (
	"strconv"
	"strings"
	"testing"

	"marquetry/api"
	"marquetry/tree"
)

// reads asks that a text is a module.
func reads(t *testing.T, s string) api.Module {
	t.Helper()
	m, err := tree.Parse(s)
	if err != nil {
		t.Fatalf("%q: %v; want none", s, err)
	}
	return m
}

// die: numbers that look drawn, the same each time.
type die uint64

func (d *die) n(most int) int {
	*d = *d*6364136223846793005 + 1442695040888963407
	return int(uint64(*d>>33) % uint64(most))
}

func (d *die) of(l ...string) string { return l[d.n(len(l))] }

// drawnExpr is an expression's text, so deep.
func drawnExpr(d *die, deep int) string {
	ref := d.of("", "", "a.", "b.", "ab.", "x.") + d.of("x", "f", "a", "b", "t1", "t10", "t2")
	if deep == 0 {
		return d.of("1", ref)
	}
	x, y := drawnExpr(d, deep-1), drawnExpr(d, deep-1)
	return d.of(x, "-"+x, "not "+x, "("+x+")", x+" + "+y, x+" or "+y, ref+"["+x+"]", ref+"()", ref+"("+x+")", ref+"("+x+", "+y+")")
}

// drawnStmts are statements' texts, so deep.
func drawnStmts(d *die, deep int) string {
	s := ""
	for range d.n(4) {
		x := drawnExpr(d, d.n(3))
		inner := ""
		if deep > 0 {
			inner = drawnStmts(d, deep-1)
		}
		s += d.of("x := "+x, "x["+x+"] := "+drawnExpr(d, 1), d.of("", "a.", "b.")+"f("+x+")", "return "+x, "write "+x, "while "+x+" do "+inner+"end", "if "+x+" then "+inner+"end", "if 1 then elsif "+x+" then "+inner+"else "+inner+"end") + "; "
	}
	return s
}

// drawnModule is a module's text, in which others see some, and names may stand twice.
func drawnModule(d *die) string {
	s := "module m; import a, b, ab, x; "
	name := func() string { return d.of("a", "b", "ab", "a1", "a10", "a2", "z") + d.of("", "*") }
	for range d.n(6) {
		s += "var " + name() + ": " + d.of("int", "array "+strconv.Itoa(1+d.n(api.MaxArray))) + "; "
	}
	for range d.n(6) {
		params := []string{"p", "q", "r"}[:d.n(4)]
		s += "proc " + name() + "(" + strings.Join(params, ", ") + "); " + d.of("", "var o, u; ") + "begin " + drawnStmts(d, 1) + "end; "
	}
	return s + "begin " + drawnStmts(d, 2) + "end."
}

// drawn shows so many drawn modules that Parse reads, and their texts.
func drawn(d *die, many int, each func(string, api.Module)) {
	for many > 0 {
		s := drawnModule(d)
		m, err := tree.Parse(s)
		if err != nil {
			continue // drawn too long
		}
		each(s, m)
		many--
	}
}
