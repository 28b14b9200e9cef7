package vm_test

import (
	"fmt"
	"reflect"
	"testing"
	"time"

	"marquetry/api"
	"marquetry/vm"
)

// 8.3: Vars of the same Name and Len have what they had, all others 0; nothing is done.
func TestSwapKeeps(t *testing.T) {
	m := machine(t, object(t, "a", "push 1; put x; push 2; put y; push 2; push 3; putat t; push 4; put u; halt"))
	o := changed(object(t, "a", "push 9; put x; halt"), func(o *api.Object) {
		o.Vars = []api.Global{{Name: "u"}, {Name: "t", Len: 3}, {Name: "new"}, {Name: "x"}, {Name: "y", Len: 1}}
	})
	swaps(t, m, "a", o, api.OK)
	for name, want := range map[string]string{"x": "1", "y": "0", "t": "0 0 3", "u": "0", "new": "0"} {
		has(t, m, "a", name, want) // an array of one is no number
	}
	swaps(t, m, "a", changed(o, func(o *api.Object) { o.Vars = []api.Global{{Name: "t", Len: 4}, {Name: "x", Seen: true}} }), api.OK)
	for name, want := range map[string]string{"x": "1", "y": "none", "t": "0 0 0 0", "u": "none"} {
		has(t, m, "a", name, want)
	}
	swaps(t, m, "a", changed(o, func(o *api.Object) { o.Vars, o.Code = nil, o.Code[2:] }), api.OK)
	swaps(t, m, "a", o, api.OK)
	has(t, m, "a", "x", "0") // what is gone is gone
	has(t, m, "a", "t", "0 0 0")
}

// 8.3: of those that are called alike, the first such; and each has its own numbers then.
func TestSwapKeepsTheFirst(t *testing.T) {
	vars := func(lens ...int) func(*api.Object) {
		return func(o *api.Object) {
			for i, n := range lens {
				o.Vars[i] = api.Global{Name: "x", Len: n}
			}
		}
	}
	a := changed(object(t, "a", "push 1; put x; push 2; put y; push 3; put t; push 4; put u; halt; g: push 7; put x; get y; leave"), vars(2, 0, 2, 0)) // what is called so here is the number of a Var
	m := machine(t, a)
	swaps(t, m, "a", changed(a, vars(0, 0, 3, 2)), api.OK)
	has(t, m, "a", "x", "2")
	calls(t, m, "a", "g", nil, much, "done", 2) // the second one is not the first one
	has(t, m, "a", "x", "7")
	swaps(t, m, "a", changed(a, vars(2, 2, 2, 2)), api.OK)
	has(t, m, "a", "x", "1 0")
}

// 8.3, 8.2: who uses it uses the one that is there now; and it uses what it names now.
func TestSwapped(t *testing.T) {
	a := object(t, "a", "push 5; put x; halt; f: get x; load 0; do +; leave")
	b := object(t, "b", "halt; f: load 0; invoke a.f; get a.x; do *; leave", a)
	d := object(t, "d", "push 30; put x; halt")
	m := machine(t, a, b, d)
	calls(t, m, "b", "f", []int64{2}, much, "done", 35)
	swaps(t, m, "a", object(t, "a", "halt; f: load 0; get d.x; do -; put y; get y; leave; g: halt", d), api.OK)
	calls(t, m, "b", "f", []int64{2}, much, "done", -140)
	has(t, m, "a", "y", "-28")
	refusesCall(t, m, "b", "g", nil, api.ErrMissing)
	swaps(t, m, "b", object(t, "b", "halt; g: push 6; leave"), api.OK)
	refusesCall(t, m, "b", "f", []int64{2}, api.ErrMissing)
	calls(t, m, "b", "g", nil, much, "done", 6)
	refuses(t, m, "b", object(t, "b", "halt"), api.ErrTwice)
}

// 8.3: ErrMissing, ahead of what it uses; ErrNone, ErrState, ahead of ErrCycle; all is as it was.
func TestSwapRefused(t *testing.T) {
	a := object(t, "a", "push 5; put x; halt; f: get x; leave")
	b := object(t, "b", "halt", a)
	m := machine(t, a, b)
	zz := object(t, "zz", "halt")
	swaps(t, m, "no such one", object(t, "c", "halt"), api.ErrMissing)
	swaps(t, m, "no such one", object(t, "c", "halt", zz), api.ErrMissing)
	swaps(t, m, "no such one", zz, api.ErrMissing)
	swaps(t, machine(t), "no such one", a, api.ErrMissing)
	swaps(t, m, "none", object(t, "a", "halt", zz), api.ErrNone)
	swaps(t, m, "not so", object(t, "a", "halt", object(t, "b", "halt; g: halt")), api.ErrState)
	swaps(t, m, "round, then none", object(t, "a", "halt", b, zz), api.ErrNone)
	swaps(t, m, "round, and missed", object(t, "a", "halt", b), api.ErrCycle)
	swaps(t, m, "missed", object(t, "a", "halt"), api.ErrState)
	has(t, m, "a", "x", "5")
	calls(t, m, "a", "f", []int64{0}, much, "done", 5)
}

// 8.3: ErrCycle: an object that it uses leads to it by Uses, as they are now.
func TestSwapCycle(t *testing.T) {
	o := func(name string, uses ...string) *api.Object {
		l := []*api.Object{}
		for _, of := range uses {
			l = append(l, object(t, of, "halt"))
		}
		return object(t, name, "halt", l...)
	}
	m := machine(t, o("a"), o("b", "a"), o("c", "b"), o("d"), o("e", "d", "c"))
	for _, round := range []*api.Object{o("a", "b"), o("a", "c"), o("a", "e"), o("a", "d", "e"), o("b", "c"), o("b", "a", "e"), o("c", "e"), o("d", "e"), o("d", "a", "e")} {
		swaps(t, m, fmt.Sprint(round.Name, round.Uses), round, api.ErrCycle)
	}
	swaps(t, m, "a uses d", o("a", "d"), api.OK)
	for _, round := range []*api.Object{o("d", "a"), o("d", "b"), o("d", "c")} {
		swaps(t, m, fmt.Sprint(round.Name, round.Uses), round, api.ErrCycle)
	}
	swaps(t, m, "b uses none", o("b"), api.OK)
	swaps(t, m, "d uses c, b", o("d", "c", "b"), api.OK)
	swaps(t, m, "a uses e", o("a", "e"), api.OK)
	swaps(t, m, "c uses a", o("c", "a"), api.ErrCycle)
	swaps(t, m, "what it used itself", o("a"), api.OK)
	swaps(t, m, "c uses a", o("c", "a"), api.OK)
}

// P1: it ends, however many ways lead from one to the other.
func TestSwapManyWays(t *testing.T) {
	m, last := machine(t), object(t, "m0", "halt")
	loads(t, m, last, much, "done")
	for i := 1; i < api.MaxModules; i++ {
		last = object(t, fmt.Sprint("m", i), "halt", last, last, last, last, last, last)
		loads(t, m, last, much, "done")
	}
	began := time.Now()
	for range 100 {
		swaps(t, m, "the last", last, api.OK)
		swaps(t, m, "round", object(t, "m0", "halt", last), api.ErrCycle)
	}
	if took := time.Since(began); took > 5*time.Second {
		t.Errorf("it took %v", took)
	}
}

// 8.3: ErrState: another one's Need is not what it shows now; what nobody uses may be otherwise.
func TestSwapState(t *testing.T) {
	a := object(t, "a", "push 5; put x; halt; f: load 0; leave; g: push 1; leave")
	use := func(names []string, need string) func(*api.Object) {
		return func(o *api.Object) { o.Uses = append(o.Uses, api.Use{Name: "a", Names: names, Need: need}) }
	}
	b := object(t, "b", "halt")
	m := machine(t, a, b, changed(object(t, "c", "halt", b), use([]string{"x", "f"}, "int x\nproc f 1\n")), changed(object(t, "d", "halt"), use(nil, "")), changed(object(t, "e", "halt"), func(o *api.Object) {
		use([]string{"f"}, "proc f 1\n")(o)
		use([]string{"k"}, "none k\n")(o)
	}))
	for what, change := range map[string]func(*api.Object){
		"no f":           func(o *api.Object) { o.Syms = o.Syms[1:] },
		"f of more":      func(o *api.Object) { o.Syms[0].Args = 2 },
		"f a variable":   func(o *api.Object) { o.Syms[0].Args = -1 },
		"another first":  func(o *api.Object) { o.Syms = append([]api.Sym{{Name: "x", Args: 0}}, o.Syms...) },
		"no x":           func(o *api.Object) { o.Syms = o.Syms[:2] },
		"x an array":     func(o *api.Object) { o.Syms[3].Len = 2 },
		"k is there":     func(o *api.Object) { o.Syms = append(o.Syms, api.Sym{Name: "k", Args: -1}) },
		"nothing at all": func(o *api.Object) { o.Syms = nil },
	} {
		swaps(t, m, what, changed(a, change), api.ErrState)
		has(t, m, "a", "x", "5")
	}
	swaps(t, m, "others", changed(a, func(o *api.Object) {
		o.Syms = []api.Sym{{Name: "z", Args: 3}, {Name: "x", Args: -1}, {Name: "f", Args: 1}, {Name: "f", Args: 2}}
		o.Procs, o.Names = nil, nil // what is needed is what others see
	}), api.OK)
	has(t, m, "a", "x", "5")
	swaps(t, m, "what is used now", object(t, "e", "halt"), api.OK)
	swaps(t, m, "k is there", changed(a, func(o *api.Object) { o.Syms = append(o.Syms, api.Sym{Name: "k", Args: -1}) }), api.OK)
}

// P4: what comes out is the caller's, and nothing that is handed in is written into.
func TestFreshMemory(t *testing.T) {
	text := "push 4; say; push 1; push 5; putat t; halt; h: push 9; store 0; push 8; store 1; load 0; say; push 0; load 0; putat t; load 1; leave"
	o := object(t, "a", text)
	var m vm.Machine
	one, _ := m.Load(o, much)
	one.Out[0] = 77
	args := []int64{1, 2, 3, 4}
	two, _, _ := m.Call("a", "h", args[:3], much)
	if fmt.Sprint(args) != "[1 2 3 4]" || fmt.Sprint(two.Out) != "[9]" {
		t.Errorf("%v, %v; want [1 2 3 4], [9]", args, two.Out)
	}
	two.Out[0] = 77
	clear(args)
	l, _ := m.Get("a", "t")
	clear(l)
	has(t, &m, "a", "t", "9 5 0")
	calls(t, &m, "a", "h", []int64{1, 2, 3}, much, "done 9", 8)
	swaps(t, &m, "itself", o, api.OK)
	has(t, &m, "a", "t", "9 5 0")
	if !reflect.DeepEqual(o, object(t, "a", text)) {
		t.Errorf("%+v was changed", o)
	}
}

// P4: one Machine has nothing of another one, even of the same objects.
func TestMachinesApart(t *testing.T) {
	o := object(t, "a", "push 5; put x; halt; g: get x; push 1; do +; put x; get x; leave")
	m, n := machine(t, o), machine(t, o)
	calls(t, m, "a", "g", nil, much, "done", 6)
	calls(t, m, "a", "g", nil, much, "done", 7)
	calls(t, n, "a", "g", nil, much, "done", 6)
	swaps(t, m, "a", o, api.OK)
	calls(t, m, "a", "g", nil, much, "done", 8)
	has(t, n, "a", "x", "6")
}
