package obj_test

import (
	"bytes"
	"encoding/binary"
	"fmt"
	"testing"

	"marquetry/api"
	"marquetry/obj"
	"marquetry/plain"
)

// whole is an object that has something of all there is, and is right.
func whole() *api.Object {
	return &api.Object{
		Name:  "m",
		Syms:  []api.Sym{{Name: "f", Args: 2}, {Name: "t", Len: 3, Args: -1}, {Name: "x", Args: -1}},
		Uses:  []api.Use{{Name: "a", Need: "proc f 1\nint x\n", Names: []string{"f", "x"}}, {Name: "b"}},
		Vars:  []api.Global{{Name: "x", Seen: true}, {Name: "y"}, {Name: "t", Len: 3, Seen: true}},
		Procs: []api.Entry{{At: 1, Args: 2, Locals: 5}, {At: 20}},
		Names: []string{"f", "g"},
		Code: []api.Inst{
			{Op: api.Halt}, {Op: api.Push, A: -300}, {Op: api.Pop}, {Op: api.Load, A: 4}, {Op: api.Store, A: 9}, {Op: api.Get, A: 1, B: -1}, {Op: api.Get, A: 1}, {Op: api.Put, A: 2},
			{Op: api.GetAt, A: 2, B: -1}, {Op: api.GetAt}, {Op: api.PutAt, A: 2}, {Op: api.Do, A: 10}, {Op: api.Neg}, {Op: api.Not}, {Op: api.Jump, A: 19}, {Op: api.Else}, {Op: api.Invoke, A: 1, B: -1}, {Op: api.Invoke}, {Op: api.Say}, {Op: api.Push, A: 7}, {Op: api.Leave},
		},
	}
}

// encoded is what an object must be as bytes; its numbers are those that package binary calls varints.
func encoded(o *api.Object) string {
	var b []byte
	number := func(l ...int) {
		for _, n := range l {
			b = binary.AppendVarint(b, int64(n))
		}
	}
	text := func(l ...string) {
		for _, s := range l {
			number(len(s))
			b = append(b, s...)
		}
	}
	text(o.Name)
	number(len(o.Syms))
	for _, s := range o.Syms {
		text(s.Name)
		number(s.Len, s.Args)
	}
	number(len(o.Uses))
	for _, u := range o.Uses {
		text(u.Name, u.Need)
		number(len(u.Names))
		text(u.Names...)
	}
	number(len(o.Vars))
	for _, g := range o.Vars {
		text(g.Name)
		number(g.Len)
		b = append(b, map[bool]byte{true: 1}[g.Seen])
	}
	number(len(o.Names))
	text(o.Names...)
	for _, e := range o.Procs {
		number(e.At, e.Args, e.Locals)
	}
	number(len(o.Code))
	for _, x := range o.Code {
		number(x.Op, int(x.A), int(x.B))
	}
	return string(b)
}

// shown is an object as a text; empty lists are alike, nil or not.
func shown(o *api.Object) string { return fmt.Sprintf("%+v", *o) }

// writes asks that an object is right, is written as it must be, and read as it was.
func writes(t *testing.T, o *api.Object) string {
	t.Helper()
	was := shown(o)
	s, err := obj.Write(o)
	if !obj.Right(o) || err != nil || s != encoded(o) {
		t.Fatalf("%s: %q, %v; want %q", was, s, err, encoded(o))
	}
	p, err := obj.Parse(s)
	if err != nil || shown(p) != was || shown(o) != was {
		t.Fatalf("%q: %+v, %v; want %s", s, p, err, was)
	}
	return s
}

// refuses asks that an object is not right, that it is not written, and that nothing reads what it would be as bytes.
func refuses(t *testing.T, what string, o *api.Object) {
	t.Helper()
	s, err := obj.Write(o)
	if e, place := plain.Place(err); obj.Right(o) || s != "" || e != api.ErrArg || place != -1 {
		t.Errorf("%s: %v, %q, error %d at %d; want false, ErrArg", what, obj.Right(o), s, e, place)
	}
	if o != nil && len(o.Names) == len(o.Procs) && !stands(o) {
		misread(t, what, encoded(o))
	}
}

// stands says whether a variable has a place, of which nothing is written.
func stands(o *api.Object) bool {
	for _, g := range o.Vars {
		if g.At != 0 {
			return true
		}
	}
	return false
}

// misread asks that a text is no object.
func misread(t *testing.T, what, s string) {
	t.Helper()
	o, err := obj.Parse(s)
	if e, place := plain.Place(err); o != nil || e != api.ErrForm || place != -1 {
		t.Errorf("%s: %q: %+v, error %d at %d; want ErrForm", what, s, o, e, place)
	}
}

// replaced is a text in which the bytes at a place are others.
func replaced(s string, at, many int, by ...byte) string {
	return string(bytes.Join([][]byte{[]byte(s[:at]), []byte(s[at+many:])}, by))
}

// die: numbers that look drawn, the same each time.
type die uint64

func (d *die) n(most int) int {
	*d = *d*6364136223846793005 + 1442695040888963407
	return int(uint64(*d>>33) % uint64(most))
}
