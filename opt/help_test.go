package opt_test

import (
	"fmt"
	"slices"
	"strconv"
	"strings"
	"testing"

	"marquetry/api"
	"marquetry/code"
	"marquetry/obj"
	"marquetry/opt"
	"marquetry/vm"
)

var ops = []string{"", "push", "pop", "load", "store", "get", "put", "getat", "putat", "do", "neg", "not", "jump", "else", "invoke", "leave", "say", "halt"}

// head is an object without code: two numbers x and y, an array t, a procedure f (of a parameter, and a local more); of another one, a, it uses f, t, x, and k, which is not there.
func head(name string) *api.Object {
	o := &api.Object{
		Name:  name,
		Syms:  []api.Sym{{Name: "f", Args: 1}, {Name: "k", Args: -1}, {Name: "t", Len: 3, Args: -1}, {Name: "x", Args: -1}},
		Vars:  []api.Global{{Name: "x", Seen: true}, {Name: "y"}, {Name: "t", Len: 3, Seen: true}},
		Procs: []api.Entry{{Args: 1, Locals: 2}},
		Names: []string{"f"},
	}
	if name != "a" {
		o.Uses = []api.Use{{Name: "a", Need: "proc f 1\narray t 3\nint x\nint k\n", Names: []string{"f", "t", "x", "k"}}}
	}
	return o
}

// object is one of that code, by words; f begins at its label, or at the first instruction.
func object(t *testing.T, name, text string) *api.Object {
	t.Helper()
	o, labels := head(name), map[string]int64{}
	lines := strings.Split(text, ";")
	for i := range lines {
		for strings.Contains(lines[i], ":") {
			label, rest, _ := strings.Cut(lines[i], ":")
			labels[strings.TrimSpace(label)], lines[i] = int64(i), rest
		}
	}
	o.Procs[0].At = int(labels["f"])
	for _, s := range lines {
		w := append(strings.Fields(s), "0")
		x := api.Inst{Op: slices.Index(ops, w[0])}
		x.A, _ = strconv.ParseInt(w[1], 10, 64)
		of, name, isOther := strings.Cut(w[1], ".")
		switch {
		case x.Op == api.Do:
			x.A = int64(slices.Index(code.Marks[:], w[1]))
		case x.Op == api.Jump, x.Op == api.Else:
			x.A = labels[w[1]]
		case isOther:
			x.A = int64(slices.Index(o.Uses[0].Names, name))
		case x.Op == api.Put, x.Op == api.PutAt:
			x.A = int64(strings.Index("xyt", of))
		case x.Op == api.Get, x.Op == api.GetAt:
			x.A, x.B = int64(strings.Index("xyt", of)), -1
		case x.Op == api.Invoke:
			x.B = -1
		}
		o.Code = append(o.Code, x)
	}
	if !obj.Right(o) {
		t.Fatalf("%s: %+v is not right", text, o)
	}
	return o
}

// words are an object's code by words, numbers for labels.
func words(o *api.Object) string {
	s := fmt.Sprint("f at ", o.Procs[0].At)
	for i, x := range o.Code {
		s += fmt.Sprint("\n", i, " ", ops[x.Op], " ", x.A, " ", x.B)
		if x.Op == api.Do {
			s += " " + code.Marks[x.A]
		}
	}
	return s
}

// less asks that an object is made less of, and that all is as it must be but what it does: that is asked elsewhere.
func less(t *testing.T, o *api.Object) *api.Object {
	t.Helper()
	was := fmt.Sprintf("%+v", o)
	p, err := opt.Less(o)
	if err != nil || !obj.Right(p) || len(p.Code) > len(o.Code) {
		t.Fatalf("%s\n%+v, %v", words(o), p, err)
	}
	if now := fmt.Sprintf("%+v", o); now != was {
		t.Fatalf("%s was changed: %s", was, now)
	}
	q := *p
	q.Code, q.Procs = o.Code, slices.Clone(o.Procs)
	for i, e := range p.Procs {
		q.Procs[i].Args, q.Procs[i].Locals = e.Args, e.Locals
	}
	if got := fmt.Sprintf("%+v", &q); got != was || len(p.Procs) != len(o.Procs) {
		t.Fatalf("%s; want all but code as in %s", got, was)
	}
	return p
}

// deed is something that is done with a Machine: an object is loaded, or a procedure f is called.
type deed struct {
	object *api.Object
	call   string
	arg    int64
}

// does does it: how it ended, and what it told.
func (c deed) does(t *testing.T, m *vm.Machine, fuel int) (api.End, int64) {
	t.Helper()
	if c.object != nil {
		e, err := m.Load(c.object, fuel)
		if err != nil {
			t.Fatalf("%+v: %v", c.object, err)
		}
		return e, 0
	}
	e, n, err := m.Call(c.call, "f", []int64{c.arg}, fuel)
	if err != nil {
		t.Fatalf("%s.f: %v", c.call, err)
	}
	return e, n
}

// ended is how the last of some deeds ended, by so many instructions (all others by much); and a text of that with all that there is then.
func ended(t *testing.T, l []deed, fuel int) (int, string) {
	t.Helper()
	var m vm.Machine
	for _, c := range l[:len(l)-1] {
		c.does(t, &m, much)
	}
	e, n := l[len(l)-1].does(t, &m, fuel)
	s := fmt.Sprint(e, n)
	for _, of := range []string{"a", "b"} {
		for _, name := range []string{"x", "y", "t"} {
			l, err := m.Get(of, name)
			s += fmt.Sprint(l, err)
		}
	}
	return e.Way, s
}

// much is more instructions than most of these deeds need.
const much = 500

// needed is how many instructions the last of some deeds needs, which ends.
func needed(t *testing.T, l []deed, most int) int {
	t.Helper()
	least := 0
	for least < most {
		half := (least + most) / 2
		if way, _ := ended(t, l, half); way == api.Fuel {
			least = half + 1
		} else {
			most = half
		}
	}
	return least
}

// open says whether what ended so may end otherwise.
func open(way int) bool { return way == api.Fuel || way == api.Stack || way == api.Fault }

// die: numbers that look drawn, the same each time.
type die uint64

func (d *die) n(most int) int {
	*d = *d*6364136223846793005 + 1442695040888963407
	return int(uint64(*d>>33) % uint64(most))
}
