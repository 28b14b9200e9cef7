package run_test

import (
	"fmt"
	"strconv"
	"strings"
	"testing"

	"marquetry/api"
	"marquetry/plain"
	"marquetry/run"
	"marquetry/tree"
)

// drawnExpr is an expression's text, so deep, of what a module of those imports has.
func drawnExpr(d *die, imports []string, deep int) string {
	of := ""
	if len(imports) > 0 && d.n(3) == 0 {
		of = d.of(imports...) + "."
	}
	if deep == 0 {
		return d.of("0", "1", "2", "3", "9223372036854775807", of+"x", "x", "y", "p", "q")
	}
	x, y := drawnExpr(d, imports, deep-1), drawnExpr(d, imports, d.n(deep))
	op := d.of("+", "-", "*", "div", "mod", "=", "#", "<", "<=", ">", ">=", "and", "or", "-", "and", "or")
	index := d.of(x, d.of("0", "1", "2"), "("+x+") mod 3", "y mod 3")
	return d.of("("+x+" "+op+" "+y+")", "("+x+" "+op+" "+y+")", "-"+x, "not "+x, of+"t["+index+"]", of+"f("+x+", "+y+")", of+"g()", x)
}

// drawnStmts are statements' texts, so deep.
func drawnStmts(d *die, imports []string, deep int) string {
	s := ""
	for range d.n(5) {
		x, y := drawnExpr(d, imports, d.n(3)), drawnExpr(d, imports, d.n(2))
		index := d.of(y, "0", "1", "2")
		a, b := "", ""
		if deep > 0 {
			a, b = drawnStmts(d, imports, deep-1), drawnStmts(d, imports, deep-1)
		}
		s += d.of("x := "+x, "y := "+x, "q := "+x, "p := p - 1", "t["+index+"] := "+x, "write "+x, "write "+x, "f("+x+", "+y+")", "g()",
			"return "+x, "if "+x+" then "+a+"end", "if "+x+" then "+a+"else "+b+"end", "if "+x+" then "+a+"elsif "+y+" then "+b+"end",
			"while "+x+" do "+a+"end", "q := 3; while q > 0 do q := q - 1; "+a+"end", "q := 0; while q < 40 do q := q + 1; write p; "+a+"end", "if p > 0 then "+d.of("return ", "q := ")+"f(p - 1, q); end") + "; "
	}
	return s
}

// drawnModule is a module's text: all of it is there, mostly.
func drawnModule(d *die, name string, imports []string) string {
	star := func() string { return d.of("*", "*", "*", "*", "*", "*", "*", "") }
	s := "module " + name + "; "
	if len(imports) > 0 {
		s += "import " + strings.Join(imports, ", ") + "; "
	}
	s += "var x" + star() + ": int; var y: " + d.of("int", "int", "int", "int", "array 1") + "; var t" + star() + ": array " + d.of("3", "3", "3", "4") + "; var p: int; var q: int; "
	s += "proc f" + star() + "(p, q); " + d.of("", "var l; ", "var y, l; ") + "begin " + drawnStmts(d, imports, 2) + "end; "
	s += "proc g" + star() + "(" + d.of("", "", "", "", "", "", "", "a") + "); " + d.of("", "var p; ", "var x, q; ") + "begin " + drawnStmts(d, imports, 1) + "end; "
	return s + "begin " + drawnStmts(d, imports, 1) + "end."
}

// drawn is a module that is read, of one of those names.
func drawn(d *die, names ...string) api.Module {
	for {
		name := d.of(names...)
		var imports []string
		for _, other := range []string{"a", "b", "c", "d"} {
			if other < name && d.n(2) == 0 || d.n(16) == 0 {
				imports = append(imports, other)
			}
		}
		if m, err := tree.Parse(drawnModule(d, name, imports)); err == nil { // else drawn too long
			return m
		}
	}
}

// same asks that what the World answers is what the model does.
func same(t *testing.T, m api.Module, got, want string) {
	t.Helper()
	if got != want {
		t.Fatalf("%s\n%s; want %s", tree.Print(m), got, want)
	}
}

// told is an error's number, and its place.
func told(err error) string {
	e, place := plain.Place(err)
	return " error " + strconv.Itoa(int(e)) + " at " + strconv.Itoa(place)
}

// pairOf is a World, and the model of it.
type pairOf struct {
	w run.World
	m model
}

// do loads a module, puts it in its place, or calls a procedure of what is there in its place: what both answered.
func (p *pairOf) do(t *testing.T, d *die, what int, m api.Module) string {
	t.Helper()
	fuel := d.n(1000)
	switch what {
	case 0:
		e, err := p.w.Load(m, fuel)
		want, no := p.m.load(m, fuel)
		same(t, m, shown(e)+told(err), shown(want)+told(no))
		return "load " + strings.Fields(shown(e))[0] + told(err)
	case 1:
		err := p.w.Swap(m)
		same(t, m, told(err), told(p.m.swap(m)))
		return "swap" + told(err)
	}
	proc, args := d.of("f", "f", "g"), []int64{int64(d.n(60)), int64(d.n(4)) - 1}
	if proc == "g" {
		args = args[:d.n(8)/7]
	}
	e, n, err := p.w.Call(m.Name, proc, args, fuel)
	want, k, no := p.m.call(m.Name, proc, args, fuel)
	same(t, m, fmt.Sprint(shown(e), n)+told(err), fmt.Sprint(shown(want), k)+told(no))
	return "call " + strings.Fields(shown(e))[0] + told(err)
}

// holds asks that the World has what the model has.
func (p *pairOf) holds(t *testing.T) {
	t.Helper()
	for name, m := range p.m.trees {
		same(t, m, fmt.Sprint(p.w.Names()), fmt.Sprint(p.m.names))
		for _, g := range m.Vars {
			l, err := p.w.Get(name, g.Name)
			same(t, m, fmt.Sprint(g.Name, l, err), fmt.Sprint(g.Name, p.m.vars[name+"."+g.Name], nil))
		}
	}
}

// 4.2, 4.3, 4.4, of drawn modules that are loaded, called, and put in others' place.
func TestDrawn(t *testing.T) {
	d := die(7)
	found := map[string]int{}
	for range 400 {
		p := pairOf{m: model{trees: map[string]api.Module{}, vars: map[string][]int64{}}}
		for i := range 30 {
			if i < 8 {
				p.do(t, &d, 0, drawn(&d, string(rune('a'+i/2))))
				continue
			}
			answer, _, _ := strings.Cut(p.do(t, &d, d.n(4), drawn(&d, "a", "b", "c", "d")), " at ")
			found[answer]++
			p.holds(t)
		}
	}
	for _, answer := range strings.Split("load done error 0,load nothing error 9,call done error 0,call zero error 0,call bounds error 0,call deep error 0,call fuel error 0,call full error 0,call nothing error 2,call nothing error 7,swap error 0,swap error 1,swap error 6,swap error 7,swap error 8,swap error 10,swap error 11", ",") {
		if found[answer] < 20 {
			t.Errorf("%s was answered only %d times", answer, found[answer])
		}
	}
}
