package tree_test

import (
	"errors"
	"fmt"
	"strings"
	"testing"

	"marquetry/api"
	"marquetry/tree"
)

// fails asks that a text, without its bar, is refused at the place where the bar stands.
func fails(t *testing.T, marked string, want api.Errno) {
	t.Helper()
	place := strings.IndexByte(marked, '|')
	if place < 0 {
		t.Fatalf("%q has no bar", marked)
	}
	s := marked[:place] + marked[place+1:]
	_, err := tree.Parse(s)
	var at *api.At
	if !errors.As(err, &at) {
		t.Errorf("%q: %v, without a place; want error %d at %d", s, err, want, place)
		return
	}
	if at.Err != want || at.Place != place {
		t.Errorf("%q: error %d at %d; want error %d at %d", s, at.Err, at.Place, want, place)
	}
}

// reads asks that a text is a module.
func reads(t *testing.T, s string) api.Module {
	t.Helper()
	m, err := tree.Parse(s)
	if err != nil {
		var at *api.At
		errors.As(err, &at)
		t.Fatalf("%q: %v, %+v; want none", s, err, at)
	}
	return m
}

// value is an expression, as Parse tells it.
func value(t *testing.T, s string) *api.Expr {
	t.Helper()
	return reads(t, "module m; begin write "+s+"; end.").Body[0].Value
}

// shape is an expression with brackets about all.
func shape(x *api.Expr) string {
	ref := x.Name
	if x.Module != "" {
		ref = x.Module + "." + ref
	}
	switch x.Code {
	case api.Num:
		return fmt.Sprint(x.N)
	case api.Var:
		return ref
	case api.Item:
		return ref + "[" + shape(x.Left) + "]"
	case api.Un:
		return "{" + x.Op + " " + shape(x.Left) + "}"
	case api.Bin:
		return "{" + shape(x.Left) + " " + x.Op + " " + shape(x.Right) + "}"
	}
	var l []string
	for _, a := range x.Args {
		l = append(l, shape(a))
	}
	return ref + "(" + strings.Join(l, " ") + ")"
}

// bare is an expression without its places.
func bare(x *api.Expr) *api.Expr {
	if x == nil {
		return nil
	}
	y := *x
	y.At, y.Left, y.Right, y.Args = 0, bare(x.Left), bare(x.Right), nil
	for _, a := range x.Args {
		y.Args = append(y.Args, bare(a))
	}
	return &y
}

// bareAll are statements without their places.
func bareAll(l []api.Stmt) []api.Stmt {
	var out []api.Stmt
	for _, s := range l {
		s.At, s.Index, s.Value = 0, bare(s.Index), bare(s.Value)
		s.Then, s.Else = bareAll(s.Then), bareAll(s.Else)
		out = append(out, s)
	}
	return out
}

// bareModule is a module without its places.
func bareModule(m api.Module) api.Module {
	vars, procs := m.Vars, m.Procs
	m.Vars, m.Procs, m.Body = nil, nil, bareAll(m.Body)
	for _, g := range vars {
		g.At = 0
		m.Vars = append(m.Vars, g)
	}
	for _, c := range procs {
		c.At, c.Body = 0, bareAll(c.Body)
		m.Procs = append(m.Procs, c)
	}
	return m
}

// die: numbers that look drawn, the same each time.
type die uint64

func (d *die) n(most int) int {
	*d = *d*6364136223846793005 + 1442695040888963407
	return int(uint64(*d>>33) % uint64(most))
}

func (d *die) of(l ...string) string { return l[d.n(len(l))] }
