package vm_test

import (
	"errors"
	"fmt"
	"slices"
	"strconv"
	"strings"
	"testing"

	"marquetry/api"
	"marquetry/code"
	"marquetry/obj"
	"marquetry/plain"
	"marquetry/sym"
	"marquetry/vm"
)

// much is more instructions than any of these objects does, but those that go on and on.
const much = 100_000

// object is one of that name and code, with some variables, and a procedure for each of these labels that the code has: f (a parameter, a local more), g (none), h (three parameters). It uses those, of which it needs what they show.
func object(t *testing.T, name, text string, uses ...*api.Object) *api.Object {
	t.Helper()
	o := &api.Object{Name: name, Vars: []api.Global{{Name: "x", Seen: true}, {Name: "y"}, {Name: "t", Len: 3, Seen: true}, {Name: "u", Len: 1}}}
	for _, of := range uses {
		use := api.Use{Name: of.Name}
		for _, s := range of.Syms {
			use.Names = append(use.Names, s.Name)
		}
		use.Need = sym.Needs(of.Syms, use.Names)
		o.Uses = append(o.Uses, use)
	}
	labels := map[string]int64{}
	lines := strings.Split(text, ";")
	for i := range lines {
		for {
			label, rest, is := strings.Cut(lines[i], ":")
			if !is {
				break
			}
			labels[strings.TrimSpace(label)], lines[i] = int64(i), rest
		}
	}
	for _, p := range []struct {
		name         string
		args, locals int
	}{{"f", 1, 2}, {"g", 0, 0}, {"h", 3, 3}} {
		if at, is := labels[p.name]; is {
			o.Names = append(o.Names, p.name)
			o.Procs = append(o.Procs, api.Entry{At: int(at), Args: p.args, Locals: p.locals})
			o.Syms = append(o.Syms, api.Sym{Name: p.name, Args: p.args})
		}
	}
	o.Syms = append(o.Syms, api.Sym{Name: "t", Len: 3, Args: -1}, api.Sym{Name: "x", Args: -1})
	for _, s := range lines {
		o.Code = append(o.Code, inst(t, o, strings.Fields(s), labels))
	}
	if !obj.Right(o) {
		t.Fatalf("%s: %+v is not right", text, o)
	}
	return o
}

// inst is an instruction by its words: its name, and a number, a mark, a label, or what is named (a.x: of another object).
func inst(t *testing.T, o *api.Object, words []string, labels map[string]int64) api.Inst {
	t.Helper()
	ops := []string{"", "push", "pop", "load", "store", "get", "put", "getat", "putat", "do", "neg", "not", "jump", "else", "invoke", "leave", "say", "halt"}
	x := api.Inst{Op: slices.Index(ops, words[0])}
	if len(words) == 1 {
		return x
	}
	variable := func(name string) int {
		return slices.IndexFunc(o.Vars, func(g api.Global) bool { return g.Name == name })
	}
	switch x.Op {
	case api.Do:
		x.A = int64(slices.Index(code.Marks[:], words[1]))
	case api.Jump, api.Else:
		x.A = labels[words[1]]
	case api.Put, api.PutAt:
		x.A = int64(variable(words[1]))
	case api.Get, api.GetAt, api.Invoke:
		x.A, x.B = int64(variable(words[1])), -1
		if x.Op == api.Invoke {
			x.A = int64(slices.Index(o.Names, words[1]))
		}
		if of, name, is := strings.Cut(words[1], "."); is {
			x.B = int64(slices.IndexFunc(o.Uses, func(u api.Use) bool { return u.Name == of }))
			x.A = int64(slices.Index(o.Uses[x.B].Names, name))
		}
	default:
		n, err := strconv.ParseInt(words[1], 10, 64)
		if err != nil {
			t.Fatal(words)
		}
		x.A = n
	}
	return x
}

// shown is how something ended, and what it told: the way's name, and the numbers.
func shown(e api.End) string {
	ways := []string{"nothing", "done", "zero", "bounds", "deep", "fuel", "full", "stack", "fault"}
	return strings.TrimSpace(ways[e.Way] + " " + strings.Trim(fmt.Sprint(e.Out), "[]"))
}

// wrong asks for an error, as they all are, without a place.
func wrong(t *testing.T, what string, err error, want api.Errno) {
	t.Helper()
	if got, place := plain.Place(err); got != want || place != -1 {
		t.Errorf("%s: error %d at %d; want %d", what, got, place, want)
	}
	var e api.Errno
	if err != nil && !errors.As(err, &e) {
		t.Errorf("%s: %#v is no error as they all are", what, err)
	}
}

// machine has objects of which nothing is wrong, whatever they tell.
func machine(t *testing.T, l ...*api.Object) *vm.Machine {
	t.Helper()
	var m vm.Machine
	for _, o := range l {
		if _, err := m.Load(o, much); err != nil {
			t.Fatalf("%+v: %v; want none", o, err)
		}
	}
	return &m
}

// loads loads an object, and asks how that ended.
func loads(t *testing.T, m *vm.Machine, o *api.Object, fuel int, want string) {
	t.Helper()
	e, err := m.Load(o, fuel)
	if err != nil || shown(e) != want {
		t.Errorf("%+v by %d: %s, %v; want %s", o.Code, fuel, shown(e), err, want)
	}
}

// refuses asks that an object is not loaded.
func refuses(t *testing.T, m *vm.Machine, what string, o *api.Object, want api.Errno) {
	t.Helper()
	e, err := m.Load(o, much)
	wrong(t, what, err, want)
	if shown(e) != "nothing" {
		t.Errorf("%s: %s beside an error", what, shown(e))
	}
}

// calls calls a procedure, and asks how that ended, and what it told.
func calls(t *testing.T, m *vm.Machine, module, proc string, args []int64, fuel int, want string, told int64) {
	t.Helper()
	e, n, err := m.Call(module, proc, args, fuel)
	if err != nil || shown(e) != want || n != told {
		t.Errorf("%s.%s(%v) by %d: %s, %d, %v; want %s, %d", module, proc, args, fuel, shown(e), n, err, want, told)
	}
}

// refusesCall asks that a call is refused.
func refusesCall(t *testing.T, m *vm.Machine, module, proc string, args []int64, want api.Errno) {
	t.Helper()
	e, n, err := m.Call(module, proc, args, much)
	wrong(t, module+"."+proc, err, want)
	if shown(e) != "nothing" || n != 0 {
		t.Errorf("%s.%s(%v): %s, %d beside an error", module, proc, args, shown(e), n)
	}
}

// has asks what a variable has: its numbers, or "none".
func has(t *testing.T, m *vm.Machine, module, name, want string) {
	t.Helper()
	l, err := m.Get(module, name)
	got := strings.Trim(fmt.Sprint(l), "[]")
	if err != nil {
		wrong(t, module+"."+name, err, api.ErrMissing)
		got += "none"
	}
	if got != want {
		t.Errorf("%s.%s has %s; want %s", module, name, got, want)
	}
}

// swaps puts an object in its place, or asks that it is refused.
func swaps(t *testing.T, m *vm.Machine, what string, o *api.Object, want api.Errno) {
	t.Helper()
	wrong(t, what, m.Swap(o), want)
}

// changed is an object with a change in it.
func changed(o *api.Object, change func(*api.Object)) *api.Object {
	c := *o
	c.Syms, c.Uses, c.Vars, c.Procs, c.Names, c.Code = slices.Clone(o.Syms), slices.Clone(o.Uses), slices.Clone(o.Vars), slices.Clone(o.Procs), slices.Clone(o.Names), slices.Clone(o.Code)
	change(&c)
	return &c
}

// die: numbers that look drawn, the same each time.
type die uint64

func (d *die) n(most int) int {
	*d = *d*6364136223846793005 + 1442695040888963407
	return int(uint64(*d>>33) % uint64(most))
}

func (d *die) of(l ...string) string { return l[d.n(len(l))] }
