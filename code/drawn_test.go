package code_test

import (
	"slices"
	"strings"
	"testing"

	"marquetry/api"
	"marquetry/code"
	"marquetry/obj"
	"marquetry/plain"
	"marquetry/run"
	"marquetry/sym"
	"marquetry/tree"
)

// drawnExpr is an expression's text, so deep, of what a module of those imports has.
func drawnExpr(d *die, imports []string, deep int) string {
	of := ""
	if len(imports) > 0 && d.n(3) == 0 {
		of = d.of(imports...) + "."
	}
	if deep == 0 {
		return d.of("0", "1", "2", "9223372036854775807", of+"x", "x", "y", "p", "q")
	}
	x, y := drawnExpr(d, imports, deep-1), drawnExpr(d, imports, d.n(deep))
	op := d.of(slices.Concat(code.Marks[:], []string{"and", "or", "and", "or"})...)
	index := d.of(x, "("+x+") mod 3", "y mod 3", "2")
	return d.of("("+x+" "+op+" "+y+")", "("+x+" "+op+" "+y+")", "-"+x, "not "+x, of+"t["+index+"]", of+"f("+x+", "+y+")", of+"g()")
}

// drawnStmts are statements' texts, so deep. What goes on and on is rare: then nothing can be held against it.
func drawnStmts(d *die, imports []string, deep int) string {
	s := ""
	for range d.n(5) {
		x, y := drawnExpr(d, imports, d.n(4)), drawnExpr(d, imports, d.n(2))
		a, b := "", ""
		if deep > 0 {
			a, b = drawnStmts(d, imports, deep-1), drawnStmts(d, imports, deep-1)
		}
		s += d.of("x := "+x, "y := "+x, "q := "+x, "p := p - 1", "t["+d.of(y, "1", "2")+"] := "+x, "write "+x, "write "+x, "f("+x+", "+y+")", "g()",
			"if "+x+" then "+a+"end", "if "+x+" then "+a+"else "+b+"end", "if "+x+" then "+a+"elsif "+y+" then "+b+"else "+a+"end", "if "+x+" then return "+y+"; end",
			"q := 3; while q > 0 do q := q - 1; "+a+"end", "while "+x+" do "+a+"return "+y+"; end", "if p > 0 then "+d.of("return ", "q := ")+"f(p - 1, q); end", "while p > 0 do p := p - 1; write p; end") + "; "
	}
	return s
}

// drawn is a module that is read, of that name, and of imports that come ahead of it.
func drawn(d *die, name string) api.Module {
	for {
		star := func() string { return d.of("*", "*", "*", "*", "*", "*", "*", "") }
		imports := slices.DeleteFunc([]string{"c", "a", "b"}, func(s string) bool { return s >= name || d.n(3) == 0 })
		s := "module " + name + "; "
		if len(imports) > 0 {
			s += "import " + strings.Join(imports, ", ") + "; "
		}
		s += "var q: int; var x" + star() + ": int; var y: int; var t" + star() + ": array " + d.of("3", "3", "3", "4") + "; var p: int; "
		s += "proc g" + star() + "(); " + d.of("", "var p; ", "var x, q; ") + "begin " + drawnStmts(d, imports, 1) + "end; "
		s += "proc f" + star() + "(p, q); " + d.of("", "var l; ", "var y, l; ") + "begin " + drawnStmts(d, imports, 2) + "end; "
		if m, err := tree.Parse(s + "begin " + drawnStmts(d, imports, 1) + "end."); err == nil { // else drawn too long
			return m
		}
	}
}

// pairOf is a World, and a machine that has the same modules as code.
type pairOf struct {
	w     run.World
	in    machine
	trees map[string]api.Module
	seen  map[string][]api.Sym
}

// object compiles a module, if Check finds nothing, asks that it is as it must be, and hands it over as bytes; nil: it was refused.
func (p *pairOf) object(t *testing.T, m api.Module, want error) *api.Object {
	t.Helper()
	if want != nil {
		e, place := plain.Place(want)
		refuses(t, m, p.seen, e, place)
		return nil
	}
	o := compiles(t, m, p.seen)
	if o.Name != m.Name || !slices.Equal(o.Syms, sym.Of(m)) || len(o.Uses) != len(m.Imports) || len(o.Vars) != len(m.Vars) || len(o.Names) != len(m.Procs) {
		t.Fatalf("%s\n%+v", tree.Print(m), o)
	}
	for i, u := range o.Uses {
		if u.Name != m.Imports[i] || !slices.Equal(u.Names, sym.Used(m, u.Name)) || u.Need != sym.Needs(p.seen[u.Name], u.Names) {
			t.Fatalf("%s\n%+v", tree.Print(m), o)
		}
	}
	p.trees[m.Name], p.seen[m.Name] = m, sym.Of(m)
	s, err := obj.Write(o)
	if err != nil {
		t.Fatal(err)
	}
	if o, err = obj.Parse(s); err != nil {
		t.Fatal(err)
	}
	return o
}

// load loads a module into both: how that ended.
func (p *pairOf) load(t *testing.T, m api.Module, fuel int) string {
	t.Helper()
	e, err := p.w.Load(m, fuel)
	o := p.object(t, m, err)
	if o == nil {
		return "refused"
	}
	if e.Way == api.Fuel {
		return "fuel" // how code goes on then is not told
	}
	r := p.in.load(o, within(fuel))
	if shown(r.end()) != shown(e) {
		t.Fatalf("%s\nmeant is %s; code: %s by %d instructions", tree.Print(m), shown(e), shown(r.end()), r.done)
	}
	return strings.Fields(shown(e))[0]
}

// call calls a procedure of both, if others see it: how that ended.
func (p *pairOf) call(t *testing.T, name, proc string, args []int64, fuel int) string {
	t.Helper()
	e, n, err := p.w.Call(name, proc, args, fuel)
	if err != nil {
		return "refused"
	}
	if e.Way == api.Fuel {
		return "fuel"
	}
	r := p.in.call(name, proc, args, within(fuel))
	if shown(r.end()) != shown(e) || r.told() != n {
		t.Fatalf("%s\n%s(%v): meant is %s, %d; code: %s, %d by %d instructions", tree.Print(p.trees[name]), proc, args, shown(e), n, shown(r.end()), r.told(), r.done)
	}
	return strings.Fields(shown(e))[0]
}

// swap puts a module in its place in both, if the World lets it.
func (p *pairOf) swap(t *testing.T, m api.Module) string {
	t.Helper()
	if p.w.Swap(m) != nil {
		return "refused"
	}
	p.in.put(p.object(t, m, nil))
	return "swapped"
}

// holds asks that both have the same.
func (p *pairOf) holds(t *testing.T) {
	t.Helper()
	for _, name := range p.w.Names() {
		for i, g := range p.in[name].Vars {
			want, err := p.w.Get(name, g.Name)
			if got := p.in[name].vars[i]; err != nil || !slices.Equal(got, want) {
				t.Fatalf("%s\n%s has %v; meant is %v, %v", tree.Print(p.trees[name]), g.Name, got, want, err)
			}
		}
	}
}

// any does something to both: what, and how that ended.
func (p *pairOf) any(t *testing.T, d *die) string {
	t.Helper()
	name, fuel := d.of("a", "b", "c", "d"), d.n(1000)
	switch d.n(6) {
	case 0, 1:
		return "swap " + p.swap(t, drawn(d, name))
	case 2:
		return "call " + p.call(t, name, "g", nil, fuel)
	}
	return "call " + p.call(t, name, "f", []int64{[]int64{0, 1, 5, 29, 300}[d.n(5)], int64(d.n(4)) - 1}, fuel)
}

// 5.1, 5.2: code does what is meant, of drawn modules that are loaded, called, and put in others' place.
func TestDrawn(t *testing.T) {
	d := die(11)
	found := map[string]int{}
	for range 1500 {
		p := pairOf{in: machine{}, trees: map[string]api.Module{}, seen: map[string][]api.Sym{}}
		for i := range 20 {
			how := ""
			if i < 4 {
				how = "load " + p.load(t, drawn(&d, string(rune('a'+i))), d.n(1000))
			} else {
				how = p.any(t, &d)
			}
			found[how]++
			if strings.HasSuffix(how, "fuel") {
				break // from here on both may have something else
			}
			p.holds(t)
		}
	}
	for _, how := range strings.Split("load done,load zero,load bounds,load deep,load refused,swap swapped,swap refused,call done,call zero,call bounds,call deep,call full,call refused", ",") {
		if found[how] < 20 {
			t.Errorf("%s: only %d times", how, found[how])
		}
	}
}
