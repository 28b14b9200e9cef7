package shop_test

import (
	"fmt"
	"maps"
	"slices"
	"strings"
	"testing"

	"marquetry/api"
	"marquetry/run"
	"marquetry/shop"
	"marquetry/vm"
)

// names are those that drawn modules have.
var names = []string{"a", "b", "c", "d", "e"}

// drawnExpr is an expression's text, of what a module of those imports has, and sometimes has not.
func drawnExpr(d *die, imports []string, deep int) string {
	of := ""
	if len(imports) > 0 && d.n(2) == 0 {
		of = d.of(imports...) + "."
	}
	if deep == 0 || d.n(3) == 0 {
		return d.of("0", "1", "2", "7", of+"x", "x", "y", of+"t["+d.of("0", "1", "2")+"]")
	}
	x, y := drawnExpr(d, imports, deep-1), drawnExpr(d, imports, deep-1)
	return d.of("("+x+" + "+y+")", x+" * "+y, "("+x+" < "+y+")", "-"+x, "not "+x, x+" div "+y, of+"f("+x+")", x+" and "+y, "("+x+" - "+y+")")
}

// drawnStmts are statements' texts.
func drawnStmts(d *die, imports []string, deep int) string {
	s := ""
	for range d.n(4) {
		x := drawnExpr(d, imports, 2)
		within := ""
		if deep > 0 {
			within = drawnStmts(d, imports, deep-1)
		}
		s += d.of("x := "+x, "y := "+x, "write "+x, "t["+d.of("0", "1", "y mod 2")+"] := "+x, "if "+x+" then "+within+"end", "if "+x+" then "+within+"else write 1; end", "y := 3; while y > 0 do y := y - 1; end") + "; "
	}
	return s
}

// drawnText is a module's text. Most import those ahead of them alone, and show what others use.
func drawnText(d *die) string {
	name := d.of(names...)
	imports := slices.DeleteFunc(slices.Clone(names), func(s string) bool { return s >= name && d.n(60) > 0 || d.n(2) == 0 })
	s := "module " + name + "; "
	if len(imports) > 0 {
		s += "import " + strings.Join(imports, ", ") + "; "
	}
	star := func() string { return d.of("*", "*", "*", "*", "*", "*", "*", "*", "*", "*", "*", "") }
	s += "var x" + star() + ": int; var y: int; var t" + star() + ": array " + d.of("3", "3", "2") + "; "
	s += "proc f" + star() + "(" + d.of("y", "k", "k", "k", "y", "k", "y", "k", "k", "k", "y, k") + "); begin " + drawnStmts(d, imports, 1) + "return " + drawnExpr(d, imports, 1) + "; end; "
	return s + "begin " + drawnStmts(d, imports, 1) + d.of("", "", "", "", "", "", "", "", "", "write zz; ", "x[0] := 1; ", "y := ; ") + "end."
}

// laidOut is a text of the same module, laid out otherwise.
func laidOut(d *die, s string) string {
	return strings.ReplaceAll(strings.ReplaceAll(s, " ", strings.Repeat(" ", 1+d.n(3))), ";", d.of(";", " ;", "\n;", ";\n"))
}

// shopText is a text that is put: a new one, one that was put lately, or one that is there laid out otherwise.
func shopText(d *die, x *model, lately []string) string {
	there := slices.Sorted(maps.Keys(x.put))
	switch {
	case len(there) > 0 && d.n(5) == 0:
		return laidOut(d, x.put[d.of(there...)])
	case len(lately) > 0 && d.n(3) == 0:
		return d.of(lately...)
	}
	return drawnText(d)
}

// 10.1: whatever is put, dropped and built, a shop answers what a second reading tells; and built bit by bit is built.
func TestDrawn(t *testing.T) {
	d := die(1)
	many := map[string]int{}
	for range 600 {
		var s shop.Shop
		x := model{put: map[string]string{}, built: map[string]string{}}
		var lately []string
		for range 40 {
			var what, got, want string
			switch d.n(8) {
			case 0:
				what = d.of(append(names, "zz")...)
				got, want = told("", s.Drop(what)), x.drop(what)
			case 1, 2, 3:
				what = "build"
				l, in, err := s.Build()
				got, want = told(in, err, l...), x.build()
				many[kind(l, err, x)]++
			default:
				what = shopText(&d, &x, lately)
				name, err := s.Put(what)
				got, want = told(name, err), x.putText(what)
				lately = append(lately, what)
			}
			if got != want {
				t.Fatalf("%s\n%v: %s; want %s", what, x, got, want)
			}
		}
		isBuilt(t, &s, x.built)
	}
	for _, k := range []string{"all", "some", "none", fmt.Sprint(api.ErrCycle), fmt.Sprint(api.ErrNone), fmt.Sprint(api.ErrMissing), fmt.Sprint(api.ErrArg), fmt.Sprint(api.ErrRange)} {
		if many[k] < 20 {
			t.Errorf("%s: %d times; they are drawn badly: %v", k, many[k], many)
		}
	}
}

// kind is of which kind an answer of Build is.
func kind(l []string, err error, x model) string {
	switch {
	case err != nil:
		return fmt.Sprint(api.Tell(err))
	case len(l) == 0:
		return "none"
	case len(l) == len(x.built):
		return "all"
	}
	return "some"
}

// isBuilt asks that a shop has what one has that is built of those texts at once; that each object is of its source; and that all does what is meant.
func isBuilt(t *testing.T, s *shop.Shop, texts map[string]string) {
	t.Helper()
	var once shop.Shop
	among := parsed(texts)
	order, _ := inOrder(among)
	for _, name := range slices.Backward(order) {
		puts(t, &once, texts[name])
	}
	builds(t, &once, "all at once", strings.Join(order, " "))
	has(t, s, "bit by bit", strings.Join(order, " "))
	if got, want := all(t, s), all(t, &once); got != want {
		t.Fatalf("%s\nis built bit by bit; at once:\n%s", got, want)
	}
	var w run.World
	var v vm.Machine
	for _, name := range order {
		o := object(t, s, name)
		isOf(t, o, among[name], among)
		meant, err := w.Load(among[name], 2000)
		if meant.Way == api.Fuel {
			return
		}
		e, no := v.Load(o, 4000*2001)
		if shown(e) != shown(meant) || err != nil || no != nil {
			t.Fatalf("%s\n%s, %v; meant is %s, %v", texts[name], shown(e), no, shown(meant), err)
		}
	}
	for _, name := range names {
		if _, there := texts[name]; !there {
			hasNot(t, s, "not built", name)
		}
	}
}
