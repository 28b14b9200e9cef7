package vm_test

import (
	"fmt"
	"slices"
	"strings"
	"testing"

	"marquetry/api"
	"marquetry/code"
	"marquetry/plain"
	"marquetry/sym"
	"marquetry/vm"
)

// drawn is an object that is right, mostly; what it uses of those that are there is so, mostly.
func drawn(d *die, name string, there map[string]*api.Object) *api.Object {
	o := &api.Object{Name: name, Vars: []api.Global{{Name: "x"}, {Name: "y"}, {Name: "t", Len: 3}, {Name: "x", Len: 3}, {Name: "y", Len: 1}, {Name: "t"}}[d.n(2):]}
	o.Names = []string{"f", "g", "f", "h"}[:2+d.n(3)]
	o.Syms = []api.Sym{{Name: "f", Args: 1}, {Name: "g"}, {Name: "h", Args: 1 + d.n(8)/7}, {Name: "t", Len: 3, Args: -1}, {Name: "x", Args: -1}, {Name: "k", Args: -1}}[:6-d.n(8)/6]
	for _, of := range []string{"a", "b", "c", "d"} {
		if of == name || of > name && d.n(12) > 0 || d.n(3) == 0 || there[of] == nil && d.n(4) > 0 {
			continue
		}
		u := api.Use{Name: of, Names: []string{"f", "g", "h", "t", "x", "k", "y"}[:5+d.n(3)]}
		if there[of] != nil && d.n(16) > 0 {
			u.Need = sym.Needs(there[of].Syms, u.Names)
		}
		o.Uses = append(o.Uses, u)
	}
	n := 6 + d.n(30)
	for _, name := range o.Names {
		o.Procs = append(o.Procs, api.Entry{At: d.n(n), Args: argsOf(d, name), Locals: 1 + d.n(3)})
	}
	height := 0
	for range n - 1 {
		o.Code = append(o.Code, drawnInst(d, o, n, &height))
	}
	o.Code = append(o.Code, []api.Inst{{Op: api.Halt}, {Op: api.Leave}, {Op: api.Jump, A: int64(d.n(n))}, {Op: api.Say}}[d.n(16)/5])
	return o
}

// argsOf is how many parameters a procedure of that name has, mostly.
func argsOf(d *die, name string) int {
	if name == "g" == (d.n(12) > 0) {
		return 0
	}
	return 1
}

// drawnInst is an instruction that finds what it takes, mostly; height: how much lies on the stack, if nothing goes elsewhere.
func drawnInst(d *die, o *api.Object, n int, height *int) api.Inst {
	takes := []int{api.Pop: 1, api.Store: 1, api.Put: 1, api.GetAt: 1, api.PutAt: 2, api.Do: 2, api.Neg: 1, api.Not: 1, api.Else: 1, api.Leave: 1, api.Say: 1, api.Invoke: 1, api.Halt: 0}
	puts := []int{api.Push: 1, api.Load: 1, api.Get: 1, api.GetAt: 1, api.Do: 1, api.Neg: 1, api.Not: 1, api.Invoke: 1, api.Halt: 0}
	x := api.Inst{Op: 1 + d.n(api.Halt)}
	if x.Op == api.Halt && d.n(3) > 0 || takes[x.Op] > *height && d.n(12) > 0 {
		x.Op = []int{api.Push, api.Load, api.Get}[d.n(3)]
	}
	*height = max(0, *height-takes[x.Op]) + puts[x.Op]
	switch x.Op {
	case api.Push:
		x.A = int64(d.n(6) - 1)
	case api.Load, api.Store:
		x.A = int64(d.n(2))
	case api.Put, api.PutAt:
		x.A = int64(d.n(len(o.Vars)))
	case api.Do:
		x.A = int64([]int{d.n(len(code.Marks)), 3, 4}[d.n(3)]) // div, mod: some of them by 0
	case api.Jump, api.Else:
		x.A = int64(d.n(n))
	case api.Get, api.GetAt, api.Invoke:
		x.A, x.B = int64(d.n(len(o.Vars))), -1
		if x.Op == api.Invoke {
			x.A = int64(d.n(len(o.Procs)))
		}
		if len(o.Uses) > 0 && d.n(2) == 0 {
			x.B = int64(d.n(len(o.Uses)))
			x.A = int64(d.n(len(o.Uses[x.B].Names)))
		}
	}
	return x
}

// pairOf is a Machine, and the model of it.
type pairOf struct {
	machine vm.Machine
	model   model
}

// same asks that both answered the same.
func same(t *testing.T, o *api.Object, got, want string) {
	t.Helper()
	if got != want {
		t.Fatalf("%+v\n%s; want %s", o, got, want)
	}
}

// number is an error's number; a place behind it, if it has one, so that this is seen.
func number(err error) string {
	e, place := plain.Place(err)
	return strings.TrimSuffix(fmt.Sprint(" error ", int(e), " at ", place), " at -1")
}

// do loads an object, puts it in its place, or calls a procedure of the one that is there: what both answered.
func (p *pairOf) do(t *testing.T, d *die, what int, o *api.Object) string {
	t.Helper()
	fuel := d.n(50) * d.n(50)
	switch what {
	case 0:
		e, err := p.machine.Load(o, fuel)
		want, no := p.model.load(o, fuel)
		same(t, o, shown(e)+number(err), shown(want)+number(no))
		return "load " + strings.Fields(shown(e))[0] + number(err)
	case 1:
		err := p.machine.Swap(o)
		same(t, o, number(err), number(p.model.swap(o)))
		return "swap" + number(err)
	}
	proc := d.of("f", "f", "f", "g", "g", "h", "h", "x", "zz")
	args := []int64{int64(d.n(5) - 1)}[:argsOf(d, proc)]
	e, n, err := p.machine.Call(o.Name, proc, args, fuel)
	want, k, no := p.model.call(o.Name, proc, args, fuel)
	same(t, p.model.objects[o.Name], fmt.Sprint(proc, args, shown(e), n)+number(err), fmt.Sprint(proc, args, shown(want), k)+number(no))
	return "call " + strings.Fields(shown(e))[0] + number(err)
}

// holds asks that the Machine has what the model has.
func (p *pairOf) holds(t *testing.T) {
	t.Helper()
	for _, of := range []string{"a", "b", "c", "d"} {
		for _, name := range []string{"x", "y", "t", "zz"} {
			got, err := p.machine.Get(of, name)
			want, no := p.model.get(of, name)
			if !slices.Equal(got, want) || number(err) != number(no) {
				t.Fatalf("%+v\n%s has %v, %v; want %v, %v", p.model.objects[of], name, got, err, want, no)
			}
		}
	}
}

// 8.1, 8.2, 8.3, of drawn objects that are loaded, called, and put in others' place.
func TestDrawn(t *testing.T) {
	d := die(5)
	found := map[string]int{}
	for range 3000 {
		p := pairOf{model: model{objects: map[string]*api.Object{}, vars: map[string][][]int64{}}}
		for i := range 30 {
			what, name := d.n(4), d.of("a", "b", "c", "d")
			if i < 8 {
				what, name = 0, string(rune('a'+i/2))
			}
			found[p.do(t, &d, what, drawn(&d, name, p.model.objects))]++
			p.holds(t)
		}
	}
	for _, answer := range strings.Split("load done error 0,load zero error 0,load bounds error 0,load deep error 0,load fuel error 0,load fault error 0,load nothing error 3,load nothing error 6,load nothing error 8,load nothing error 9,"+
		"call done error 0,call zero error 0,call bounds error 0,call deep error 0,call fuel error 0,call fault error 0,call nothing error 2,call nothing error 7,swap error 0,swap error 3,swap error 6,swap error 7,swap error 8,swap error 11", ",") {
		if found[answer] < 20 {
			t.Errorf("%s was answered only %d times", answer, found[answer])
		}
	}
}
