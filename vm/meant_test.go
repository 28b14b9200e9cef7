package vm_test

import (
	"errors"
	"fmt"
	"slices"
	"strings"
	"testing"

	"marquetry/api"
	"marquetry/code"
	"marquetry/obj"
	"marquetry/opt"
	"marquetry/run"
	"marquetry/sym"
	"marquetry/tree"
	"marquetry/vm"
)

// drawnExpr is an expression's text, so deep, of what a module of those imports has.
func drawnExpr(d *die, imports []string, deep int) string {
	of := ""
	if len(imports) > 0 && d.n(3) == 0 {
		of = d.of(imports...) + "."
	}
	if deep == 0 {
		return d.of("0", "1", "2", "9223372036854775807", of+"x", "x", "y", "p", "q")
	}
	x, y := drawnExpr(d, imports, deep-1), drawnExpr(d, imports, d.n(deep))
	op := d.of(slices.Concat(code.Marks[:], []string{"and", "or", "and", "or"})...)
	index := d.of(x, "("+x+") mod 3", "y mod 3", "2")
	return d.of("("+x+" "+op+" "+y+")", "("+x+" "+op+" "+y+")", "-"+x, "not "+x, of+"t["+index+"]", of+"f("+x+", "+y+")", of+"g()")
}

// drawnStmts are statements' texts, so deep. What goes on and on is rare: then nothing can be held against it.
func drawnStmts(d *die, imports []string, deep int) string {
	s := ""
	for range d.n(5) {
		x, y := drawnExpr(d, imports, d.n(4)), drawnExpr(d, imports, d.n(2))
		a, b := "", ""
		if deep > 0 {
			a, b = drawnStmts(d, imports, deep-1), drawnStmts(d, imports, deep-1)
		}
		s += d.of("x := "+x, "y := "+x, "q := "+x, "p := p - 1", "t["+d.of(y, "1", "2")+"] := "+x, "write "+x, "write "+x, "f("+x+", "+y+")", "g()",
			"if "+x+" then "+a+"end", "if "+x+" then "+a+"else "+b+"end", "if "+x+" then "+a+"elsif "+y+" then "+b+"else "+a+"end", "if "+x+" then return "+y+"; end",
			"q := 3; while q > 0 do q := q - 1; "+a+"end", "while "+x+" do "+a+"return "+y+"; end", "if p > 0 then "+d.of("return ", "q := ")+"f(p - 1, q); end", "while p > 0 do p := p - 1; write p; end") + "; "
	}
	return s
}

// drawnModule is a module that is read, of that name, and of imports that come ahead of it.
func drawnModule(d *die, name string) api.Module {
	for {
		star := func() string { return d.of("*", "*", "*", "*", "*", "*", "*", "") }
		imports := slices.DeleteFunc([]string{"c", "a", "b"}, func(s string) bool { return s >= name || d.n(3) == 0 })
		s := "module " + name + "; "
		if len(imports) > 0 {
			s += "import " + strings.Join(imports, ", ") + "; "
		}
		s += "var q: int; var x" + star() + ": int; var y: int; var t" + star() + ": array " + d.of("3", "3", "3", "4") + "; var p: int; "
		s += "proc g" + star() + "(); " + d.of("", "var p; ", "var x, q; ") + "begin " + drawnStmts(d, imports, 1) + "end; "
		s += "proc f" + star() + "(p, q); " + d.of("", "var l; ", "var y, l; ") + "begin " + drawnStmts(d, imports, 2) + "end; "
		if m, err := tree.Parse(s + "begin " + drawnStmts(d, imports, 1) + "end."); err == nil { // else drawn too long
			return m
		}
	}
}

// both are a World, and Machines that have the same modules: as bytes of their code, and as less code.
type both struct {
	world run.World
	bytes vm.Machine
	less  vm.Machine
	trees map[string]api.Module
	seen  map[string][]api.Sym
}

// within is in how many instructions something must end that ends within so many steps.
func within(steps int) int { return 4000 * (steps + 1) }

// objects compiles a module of which Check finds nothing, asks that it is as it must be, and hands it over as bytes, and as less code.
func (b *both) objects(t *testing.T, m api.Module) (asBytes, less *api.Object) {
	t.Helper()
	o, err := code.Compile(m, b.seen)
	if err != nil || o.Name != m.Name || !slices.Equal(o.Syms, sym.Of(m)) || len(o.Uses) != len(m.Imports) || len(o.Vars) != len(m.Vars) || len(o.Names) != len(m.Procs) {
		t.Fatalf("%s\n%+v, %v", tree.Print(m), o, err)
	}
	for i, u := range o.Uses {
		if u.Name != m.Imports[i] || !slices.Equal(u.Names, sym.Used(m, u.Name)) || u.Need != sym.Needs(b.seen[u.Name], u.Names) {
			t.Fatalf("%s\n%+v", tree.Print(m), o)
		}
	}
	s, err := obj.Write(o)
	asBytes, no := obj.Parse(s)
	less, none := opt.Less(o)
	if err := errors.Join(err, no, none); err != nil || len(less.Code) > len(o.Code) {
		t.Fatalf("%s\n%v, %+v", tree.Print(m), err, less)
	}
	b.trees[m.Name], b.seen[m.Name] = m, sym.Of(m)
	return asBytes, less
}

// answer is what was answered, how it ended ahead of all else.
func answer(e api.End, n int64, err error) string {
	return fmt.Sprint(shown(e), " tells ", n, number(err))
}

// same3 asks that what was answered as it is meant was answered so as code: how it ended.
func same3(t *testing.T, m api.Module, what string, meant, asBytes, less string) string {
	t.Helper()
	if meant != asBytes || meant != less {
		t.Fatalf("%s\n%s: meant is %s; bytes: %s; less: %s", tree.Print(m), what, meant, asBytes, less)
	}
	return strings.Fields(meant)[0]
}

// load loads a module into all: how that ended.
func (b *both) load(t *testing.T, m api.Module, fuel int) string {
	t.Helper()
	e, err := b.world.Load(m, fuel)
	if err != nil {
		o, no := code.Compile(m, b.seen)
		if number(err) != number(no) || o != nil {
			t.Fatalf("%s\n%v; want %v", tree.Print(m), no, err)
		}
		return "refused"
	}
	if e.Way == api.Fuel {
		return "fuel"
	}
	o, p := b.objects(t, m)
	f, no := b.bytes.Load(o, within(fuel))
	g, none := b.less.Load(p, within(fuel))
	return same3(t, m, "load", answer(e, 0, err), answer(f, 0, no), answer(g, 0, none))
}

// call calls a procedure of all, if others see it: how that ended.
func (b *both) call(t *testing.T, name, proc string, args []int64, fuel int) string {
	t.Helper()
	e, n, err := b.world.Call(name, proc, args, fuel)
	if e.Way == api.Fuel {
		return "fuel"
	}
	f, k, no := b.bytes.Call(name, proc, args, within(fuel))
	g, l, none := b.less.Call(name, proc, args, within(fuel))
	return same3(t, b.trees[name], fmt.Sprint(proc, args), answer(e, n, err), answer(f, k, no), answer(g, l, none))
}

// swap puts a module in its place in all, if the World lets it.
func (b *both) swap(t *testing.T, m api.Module) string {
	t.Helper()
	if b.world.Swap(m) != nil {
		return "refused"
	}
	o, p := b.objects(t, m)
	if err := errors.Join(b.bytes.Swap(o), b.less.Swap(p)); err != nil {
		t.Fatalf("%s\n%v", tree.Print(m), err)
	}
	return "swapped"
}

// holds asks that all have the same.
func (b *both) holds(t *testing.T) {
	t.Helper()
	for _, name := range b.world.Names() {
		for _, g := range b.trees[name].Vars {
			want, err := b.world.Get(name, g.Name)
			one, no := b.bytes.Get(name, g.Name)
			two, none := b.less.Get(name, g.Name)
			if errors.Join(err, no, none) != nil || !slices.Equal(one, want) || !slices.Equal(two, want) {
				t.Fatalf("%s\n%s has %v; bytes: %v; less: %v", tree.Print(b.trees[name]), g.Name, want, one, two)
			}
		}
	}
}

// any does something to all: what, and how that ended.
func (b *both) any(t *testing.T, d *die) string {
	t.Helper()
	name, fuel := d.of("a", "b", "c", "d"), d.n(1000)
	switch d.n(6) {
	case 0, 1:
		return "swap " + b.swap(t, drawnModule(d, name))
	case 2:
		return "call " + b.call(t, name, "g", nil, fuel)
	}
	return "call " + b.call(t, name, "f", []int64{[]int64{0, 1, 5, 29, 300}[d.n(5)], int64(d.n(4)) - 1}, fuel)
}

// 5.1, 5.2, 7.1, 8.1 to 8.3: code does what is meant, as bytes and as less, of drawn modules that are loaded, called, and put in others' place.
func TestMeant(t *testing.T) {
	d := die(11)
	found := map[string]int{}
	for range 1500 {
		b := both{trees: map[string]api.Module{}, seen: map[string][]api.Sym{}}
		for i := range 20 {
			how := ""
			if i < 4 {
				how = "load " + b.load(t, drawnModule(&d, string(rune('a'+i))), d.n(1000))
			} else {
				how = b.any(t, &d)
			}
			found[how]++
			if strings.HasSuffix(how, "fuel") {
				break // from here on they may have something else
			}
			b.holds(t)
		}
	}
	for _, how := range strings.Split("load done,load zero,load bounds,load deep,load refused,swap swapped,swap refused,call done,call zero,call bounds,call deep,call full,call nothing", ",") {
		if found[how] < 20 {
			t.Errorf("%s: only %d times", how, found[how])
		}
	}
}
