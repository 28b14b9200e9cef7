package run_test

import (
	"fmt"
	"reflect"
	"testing"

	"marquetry/api"
	"marquetry/run"
)

// P4: what comes out is the caller's, and nothing that is handed in is written into.
func TestFreshMemory(t *testing.T) {
	var w run.World
	s := "module a; var x: int; var t: array 3; proc f*(p, q); begin p := 9; q := 8; t[0] := p; write p; return q; end; begin t[1] := 5; write 4; end."
	m := reads(t, s)
	one, _ := w.Load(m, much)
	one.Out[0] = 77
	args := []int64{1, 2, 3}
	two, _, _ := w.Call("a", "f", args[:2], much)
	if fmt.Sprint(args) != "[1 2 3]" || fmt.Sprint(two.Out) != "[9]" {
		t.Errorf("%v, %v; want [1 2 3], [9]", args, two.Out)
	}
	two.Out[0] = 77
	args[0], args[1] = 77, 77
	l, _ := w.Get("a", "t")
	l[0], l[1] = 77, 77
	x, _ := w.Get("a", "x")
	x[0] = 77
	names := w.Names()
	names[0] = "zz"
	_ = append(names[:0], "y", "z")
	has(t, &w, "a", "t", "9 5 0")
	has(t, &w, "a", "x", "0")
	loads(t, &w, "module b; begin end.", much, "done")
	if got := fmt.Sprint(w.Names()); got != "[a b]" {
		t.Errorf("there are %s; want [a b]", got)
	}
	calls(t, &w, "a", "f", []int64{1, 2}, much, "done 9", 8)
	if w.Swap(m) != nil || !reflect.DeepEqual(m, reads(t, s)) {
		t.Errorf("%+v was changed", m)
	}
	has(t, &w, "a", "t", "9 5 0")
}

// P4: one World has nothing of another one, even of the same modules.
func TestWorldsApart(t *testing.T) {
	m := reads(t, "module a; var x: int; proc f*(); begin x := x + 1; return x; end; begin x := 5; end.")
	var v, w run.World
	v.Load(m, much)
	w.Load(m, much)
	calls(t, &v, "a", "f", nil, much, "done", 6)
	calls(t, &v, "a", "f", nil, much, "done", 7)
	calls(t, &w, "a", "f", nil, much, "done", 6)
	v.Swap(m)
	calls(t, &v, "a", "f", nil, much, "done", 8)
	has(t, &w, "a", "x", "6")
}

// P1: the empty module is one, too; and what was refused leaves nothing behind.
func TestEmptyModule(t *testing.T) {
	var w run.World
	if w.Swap(api.Module{}) != api.ErrMissing {
		t.Error("the empty module was not there")
	}
	for range 2 {
		w.Load(api.Module{}, 0)
	}
	if w.Swap(api.Module{}) != nil || len(w.Names()) != 1 || w.Names()[0] != "" {
		t.Errorf("there are %q", w.Names())
	}
	has(t, &w, "", "", "none")
	refusesCall(t, &w, "", "", nil, api.ErrMissing)
	refuses(t, &w, "module a; import a; begin end.", api.ErrOrder)
	loads(t, &w, "module a; var x: int; begin x := 1; end.", much, "done")
}

// P1: modules that are put together of what Parse told may lie much deeper than a text may; and procedures of such wait.
func TestPutTogether(t *testing.T) {
	const deep = 60_000
	m := reads(t, "module m; proc f*(k); begin if k then write f(k - 1); end; return 1; end; proc g*(k); begin if k then g(k - 1); end; return 2; end; begin end.")
	x, body := &m.Procs[0].Body[0].Then[0].Value, &m.Procs[1].Body
	nought := &api.Expr{Code: api.Num}
	for range deep / 2 {
		*x = &api.Expr{Code: api.Bin, Op: "-", Left: nought, Right: &api.Expr{Code: api.Un, Op: "-", Left: *x}}
		*body = []api.Stmt{{Code: api.While, Value: &api.Expr{Code: api.Num, N: 1}, Then: []api.Stmt{{Code: api.If, Value: nought, Else: *body}}}}
	}
	var w run.World
	if _, err := w.Load(m, 0); err != nil {
		t.Fatal(err)
	}
	calls(t, &w, "m", "f", []int64{0}, much, "done", 1)
	calls(t, &w, "m", "f", []int64{3}, much, "done 1 1 1", 1)
	calls(t, &w, "m", "f", []int64{api.MaxCalls}, much, "deep", 0)
	calls(t, &w, "m", "g", []int64{1}, 2*deep+5, "done", 2)
	calls(t, &w, "m", "g", []int64{1}, 2*deep+4, "fuel", 0)
}
