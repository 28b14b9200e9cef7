package code_test

import (
	"fmt"
	"math"
	"reflect"
	"slices"
	"strings"
	"testing"

	"marquetry/api"
	"marquetry/code"
)

// 5.1: Marks.
func TestMarks(t *testing.T) {
	want := [11]string{"+", "-", "*", "div", "mod", "=", "#", "<", "<=", ">", ">="}
	if code.Marks != want {
		t.Errorf("%v; want %v", code.Marks, want)
	}
}

// 5.1: all of an object but its code.
func TestOutside(t *testing.T) {
	seen := seenOf(t, "module a; var x*: int; var t*: array 3; var y*: int; proc f*(p, q); begin end; begin end.", "module b; begin end.", "module c; proc g*(); begin end; begin end.")
	m := reads(t, "module m; import c, b, a; var z*: array 30; var x: int; var a*: int; "+
		"proc k*(p, q); var r; begin c.g(); return a.f(a.t[p], a.x); end; proc h(); begin end; proc c*(b); var a, c, d, e, f, g, h, i, j; begin end; begin write a.t[0] + a.x; end.")
	o := compiles(t, m, seen)
	for i := range o.Procs {
		o.Procs[i].At = 0
	}
	o.Code = nil
	want := &api.Object{
		Name: "m",
		Syms: []api.Sym{{Name: "a", Args: -1}, {Name: "c", Args: 1}, {Name: "k", Args: 2}, {Name: "z", Len: 30, Args: -1}},
		Uses: []api.Use{
			{Name: "c", Need: "proc g 0\n", Names: []string{"g"}},
			{Name: "b"},
			{Name: "a", Need: "proc f 2\narray t 3\nint x\n", Names: []string{"f", "t", "x"}},
		},
		Vars:  []api.Global{{Name: "z", Len: 30, Seen: true}, {Name: "x"}, {Name: "a", Seen: true}},
		Procs: []api.Entry{{Args: 2, Locals: 3}, {}, {Args: 1, Locals: 10}},
		Names: []string{"k", "h", "c"},
	}
	if fmt.Sprintf("%+v", o) != fmt.Sprintf("%+v", want) {
		t.Errorf("%+v; want %+v", o, want)
	}
}

// 5.1: a module of nothing, and one that asks for nothing of what it imports.
func TestNothing(t *testing.T) {
	o := compiles(t, reads(t, "module m; begin end."), nil)
	if o.Name != "m" || len(o.Syms)+len(o.Uses)+len(o.Vars)+len(o.Procs)+len(o.Names) != 0 {
		t.Errorf("%+v", o)
	}
	o = compiles(t, reads(t, "module m; import b, a; begin end."), map[string][]api.Sym{"a": nil, "b": {{Name: "x", Args: -1}}})
	if fmt.Sprint(o.Uses) != "[{b  []} {a  []}]" {
		t.Errorf("%+v", o.Uses)
	}
}

// 5.1: Check's errors, with their places, and nothing beside them.
func TestRefused(t *testing.T) {
	seen := seenOf(t, "module a; var x*: int; var t*: array 3; proc f*(p); begin end; begin end.", "module b; begin end.")
	for s, want := range map[string]api.Errno{
		"module m; import m; begin end.":                                   api.ErrOrder,
		"module m; import a, a; begin end.":                                api.ErrOrder,
		"module m; import a, zz; begin end.":                               api.ErrNone,
		"module m; var x: int; var @x: int; begin end.":                    api.ErrTwice,
		"module m; var x: int; @proc x(); begin end; begin end.":           api.ErrTwice,
		"module m; @proc f(p); var p; begin end; begin end.":               api.ErrTwice,
		"module m; import b; begin write @a.x; end.":                       api.ErrName,
		"module m; import a, b; begin write @b.x; end.":                    api.ErrMissing,
		"module m; proc f(); begin @zz := 1; end; begin write y; end.":     api.ErrMissing,
		"module m; var x: int; begin @x[0] := 1; end.":                     api.ErrArg,
		"module m; import a; var t: array 2; begin t[0] := @a.t; end.":     api.ErrArg,
		"module m; import a; begin write a.x; @a.f(); end.":                api.ErrRange,
		"module m; proc f(); begin end; begin while 1 do @f(1); end; end.": api.ErrRange,
	} {
		refuses(t, reads(t, strings.Replace(s, "@", "", 1)), seen, want, strings.Index(s, "@"))
	}
	refuses(t, reads(t, "module m; import a; begin end."), nil, api.ErrNone, -1)
}

// 5.1: what seen has beside what is Used makes no difference.
func TestSeenBeside(t *testing.T) {
	m := reads(t, "module m; import a, b; begin write a.x + a.f(2) + a.t[0]; end.")
	bare := map[string][]api.Sym{"a": {{Name: "f", Args: 1}, {Name: "t", Len: 3, Args: -1}, {Name: "x", Args: -1}}, "b": nil}
	want := compiles(t, m, bare)
	more := map[string][]api.Sym{
		"a": {{Name: "Z!", Len: -4, Args: 77}, {Name: "x", Args: -1}, {Name: "t", Len: 3, Args: -1}, {Name: "x", Len: 9, Args: -1}, {Name: "f", Args: 1}, {Name: "", Args: 0}, {Name: "f", Args: -1}, {Name: strings.Repeat("y", 9000), Args: -1}},
		"b": {{Name: "x", Args: -1}}, "m": {{Name: "x", Args: 1}}, "c": nil, "": nil,
	}
	for i := range 1000 {
		more["b"] = append(more["b"], api.Sym{Name: fmt.Sprint("n", i), Len: math.MaxInt, Args: -1})
	}
	if got := compiles(t, m, more); !reflect.DeepEqual(got, want) {
		t.Errorf("%+v; want %+v", got, want)
	}
}

// 5.1: no ErrLimit, however much stands in the text: what needs most code for its tokens, and what nests most.
func TestNoErrLimit(t *testing.T) {
	const head, tail = "module m; var x: int; var t: array 3; proc f(p); begin return p; end; begin ", "end."
	fills := func(ahead, again, behind string) string { // as often as it may stand there
		last := ""
		for n := 1; ; n++ {
			s := head + ahead + strings.Repeat(again, n) + behind + tail
			if !parses(s) {
				return last
			}
			last = s
		}
	}
	deep := strings.Repeat("while x do if x then else ", api.MaxDepth/2)
	for _, s := range []string{
		fills("write x", " or x", "; "), fills("write x", " and x", "; "), fills("write x", " and x or x", "; "), fills("write x", " + x and -x", "; "),
		fills("", "x := 1; ", ""), fills("", "if x then end; ", ""), fills("", "while x do end; ", ""), fills("", "if x then elsif x then else end; ", ""), fills("", "t[x] := t[x]; ", ""), fills("", "f(x); ", ""), fills("", "return 1; ", ""),
		fills(deep, "x := x or x; ", strings.Repeat("end; end; ", api.MaxDepth/2)),
	} {
		if s == "" {
			t.Fatal("nothing was read")
		}
		compiles(t, reads(t, s), nil)
	}
}

// 5.1: as much as others may see is used; and all procedures there may be, with all that is theirs.
func TestMost(t *testing.T) {
	a, all := "module a; ", "0"
	for i := range api.MaxVars {
		a += fmt.Sprintf("var abcdefghi%d*: array 30; ", i)
		all += fmt.Sprintf(" + a.abcdefghi%d[1]", i)
	}
	for i := range api.MaxProcs {
		a += fmt.Sprintf("proc bcdefghij%d*(); begin end; ", i)
		all += fmt.Sprintf(" + a.bcdefghij%d()", i)
	}
	o := compiles(t, reads(t, "module m; import a; begin write "+all+"; end."), seenOf(t, a+"begin end."))
	if n := len(o.Uses[0].Names); n != api.MaxVars+api.MaxProcs {
		t.Errorf("%d names are used", n)
	}
	o = compiles(t, reads(t, a+"begin end."), nil)
	if len(o.Vars) != api.MaxVars || len(o.Procs) != api.MaxProcs || len(o.Syms) != api.MaxVars+api.MaxProcs {
		t.Errorf("%+v", o)
	}
	o = compiles(t, reads(t, "module m; proc f(a, b, c, d, e); var f, g, h, i, j; begin j := a + e; return f - g; end; begin f(1, 2, 3, 4, 5); end."), nil)
	if o.Procs[0].Args != 5 || o.Procs[0].Locals != api.MaxVars {
		t.Errorf("%+v", o.Procs)
	}
}

// What no text has room for, or no module shows, is refused, and not handed out as an object that is not right.
func TestTooMuch(t *testing.T) {
	m := reads(t, "module m; begin write -1; end.")
	said := m.Body[0]
	m.Body = slices.Repeat([]api.Stmt{said}, (api.MaxCode-1)/3)
	if o := compiles(t, m, nil); len(o.Code) != api.MaxCode {
		t.Errorf("%d instructions; want %d", len(o.Code), api.MaxCode)
	}
	m.Body[7].Value = &api.Expr{Code: api.Un, Op: "not", Left: said.Value}
	refuses(t, m, nil, api.ErrLimit, -1)
	m.Body[7].Value = said.Value
	m.Procs = reads(t, "module m; proc f(); begin end; begin end.").Procs
	refuses(t, m, nil, api.ErrLimit, -1)

	m = reads(t, "module m; begin write 1; end.")
	for range 60_000 { // much deeper than a text may nest
		m.Body[0].Value = &api.Expr{Code: api.Un, Op: "-", Left: m.Body[0].Value}
		m.Body = []api.Stmt{m.Body[0], {Code: api.While, Value: said.Value, Then: m.Body[1:]}}
	}
	refuses(t, m, nil, api.ErrLimit, -1)

	all, seen := "0", map[string][]api.Sym{}
	for i := range 101 {
		name := fmt.Sprintf("abcdefg%d", 100+i)
		all += " + a." + name
		seen["a"] = append(seen["a"], api.Sym{Name: name, Args: -1})
		m := reads(t, "module m; import a; begin write "+all+"; end.")
		if i < 100 {
			compiles(t, m, seen)
		} else {
			refuses(t, m, seen, api.ErrLimit, -1)
		}
	}
}

// P1: modules that nobody told are no reason to panic.
func TestNoPanic(t *testing.T) {
	for _, m := range []api.Module{
		{},
		{Body: []api.Stmt{{}}},
		{Body: []api.Stmt{{Code: api.Write}}},
		{Body: []api.Stmt{{Code: api.Write, Value: &api.Expr{}}}},
		{Body: []api.Stmt{{Code: api.If, Value: &api.Expr{Code: api.Bin, Op: "and"}}}},
		{Body: []api.Stmt{{Code: api.While, Value: &api.Expr{Code: api.Bin, Op: "?", Left: &api.Expr{Code: api.Num}, Right: &api.Expr{Code: 99}}}}},
		{Procs: []api.Proc{{Body: []api.Stmt{{Code: api.Return, Value: &api.Expr{Code: api.Un}}}}}},
		{Imports: []string{""}, Body: []api.Stmt{{Code: api.Call, Value: &api.Expr{Code: api.Apply}}}, Procs: []api.Proc{{}}},
	} {
		if o, err := code.Compile(m, map[string][]api.Sym{"a": nil}); (o == nil) == (err == nil) {
			t.Errorf("%+v: %v, %v", m, o, err)
		}
	}
}

// P4: nothing that is handed in is written into, and what comes out is the caller's.
func TestFreshMemory(t *testing.T) {
	const a = "module a; var x*: int; proc f*(p); begin end; begin end."
	const s = "module m; import a; var x*: int; var t: array 3; proc f*(p); var q; begin q := p; return a.f(q) + a.x; end; proc g(); begin end; begin x := f(1); end."
	m, seen := reads(t, s), seenOf(t, a)
	want := compiles(t, reads(t, s), seenOf(t, a))
	for range 2 {
		o := compiles(t, m, seen)
		if !reflect.DeepEqual(o, want) || !reflect.DeepEqual(m, reads(t, s)) || !reflect.DeepEqual(seen, seenOf(t, a)) {
			t.Fatalf("%+v of %+v, %+v", o, m, seen)
		}
		clear(o.Syms)
		clear(o.Uses[0].Names)
		clear(o.Uses)
		clear(o.Vars)
		clear(o.Procs)
		clear(o.Names)
		clear(o.Code)
	}
}
