package opt_test

import (
	"strings"
	"testing"

	"marquetry/api"
	"marquetry/code"
)

// draft is code that is drawn piece by piece, so that it finds what it takes, mostly.
type draft struct {
	d     *die
	o     *api.Object
	first int   // where the part begins in which it goes on
	own   bool  // whether that is of a procedure, which has locals
	lie   []int // how much lies on the stack ahead of each instruction, if nothing goes elsewhere
	now   int   // and how much does now
}

// add adds instructions, and how much they take and put.
func (f *draft) add(l ...api.Inst) {
	takes := []int{api.Pop: 1, api.Store: 1, api.Put: 1, api.GetAt: 1, api.PutAt: 2, api.Do: 2, api.Neg: 1, api.Not: 1, api.Else: 1, api.Leave: 1, api.Say: 1, api.Invoke: 1, api.Halt: 0}
	puts := []int{api.Push: 1, api.Load: 1, api.Get: 1, api.GetAt: 1, api.Do: 1, api.Neg: 1, api.Not: 1, api.Invoke: 1, api.Halt: 0}
	for _, x := range l {
		for f.now < takes[x.Op] && f.d.n(30) > 0 {
			f.add(f.value())
		}
		f.o.Code, f.lie = append(f.o.Code, x), append(f.lie, f.now)
		f.now = max(0, f.now-takes[x.Op]) + puts[x.Op]
	}
}

// value is an instruction that puts something.
func (f *draft) value() api.Inst {
	switch n := f.d.n(6); {
	case n < 2:
		return api.Inst{Op: api.Push, A: int64(f.d.n(5) - 1)}
	case n < 4 && f.own:
		return api.Inst{Op: api.Load, A: int64(f.d.n(2))}
	case n == 4 && len(f.o.Uses) > 0:
		return api.Inst{Op: api.Get, A: 2}
	}
	return api.Inst{Op: api.Get, A: int64(f.d.n(2)), B: -1}
}

// inst is an instruction of that Op, of what there is; where it goes is drawn when all is there.
func (f *draft) inst(op int) api.Inst {
	x := api.Inst{Op: op}
	switch op {
	case api.Push:
		x.A = int64(f.d.n(4) - 1)
	case api.Load, api.Store:
		x.A = int64(f.d.n(2))
	case api.Get, api.Put:
		x.A = int64(f.d.n(2))
	case api.GetAt, api.PutAt:
		x.A = 2
	case api.Do:
		x.A = int64(f.d.n(len(code.Marks)))
	}
	if op == api.Get || op == api.GetAt || op == api.Invoke {
		x.B = -1
		if len(f.o.Uses) > 0 && f.d.n(3) == 0 {
			x.B, x.A = 0, int64(map[int]int{api.Get: 2 + f.d.n(6)/5, api.GetAt: 1, api.Invoke: 0}[op])
		}
	}
	return x
}

// piece adds something of which less may be made, or not.
func (f *draft) piece() {
	pieces := [][]int{
		{api.Push, api.Push, api.Do}, {api.Push, api.Do}, {api.Push, api.Do, api.Not}, {api.Push, api.Do, api.Else}, {api.Push, api.Neg}, {api.Push, api.Not, api.Else}, {api.Push, api.Else}, {api.Push, api.Pop}, {api.Push, api.Jump}, {api.Push, api.Not, api.Jump},
		{api.Neg, api.Neg}, {api.Neg, api.Do}, {api.Neg, api.Not}, {api.Neg, api.Else}, {api.Not, api.Not, api.Not}, {api.Not, api.Not, api.Else}, {api.Do, api.Not}, {api.Do, api.Not, api.Not}, {api.Do, api.Pop}, {api.Do, api.Else, api.Jump}, {api.Not, api.Else, api.Jump}, {api.Get, api.Pop}, {api.Get, api.Put}, {api.GetAt, api.Pop},
		{api.Else}, {api.Else}, {api.Jump}, {api.Do}, {api.Do}, {api.Say}, {api.Say}, {api.Put}, {api.Put}, {api.PutAt}, {api.GetAt}, {api.Pop}, {api.Invoke}, {api.Leave}, {api.Halt},
		{api.Load, api.Pop}, {api.Load, api.Store}, {api.Store, api.Load, api.Leave}, {api.Store, api.Load}, {api.Store},
	}
	if !f.own {
		pieces = pieces[:len(pieces)-5]
	}
	for _, op := range pieces[f.d.n(len(pieces))] {
		f.add(f.inst(op))
	}
}

// part adds a part of so many instructions, or some more, and lets it go about in itself, mostly to where as much lies on the stack, and onward.
func (f *draft) part(many int, last api.Inst) {
	f.first, f.now = len(f.o.Code), 0
	for len(f.o.Code)-f.first < many {
		f.piece()
	}
	f.add(last)
	for i := f.first; i < len(f.o.Code); i++ {
		x := &f.o.Code[i]
		if x.Op != api.Jump && x.Op != api.Else {
			continue
		}
		lies := f.lie[i]
		if x.Op == api.Else {
			lies--
		}
		for range 40 {
			x.A = int64(f.first + f.d.n(len(f.o.Code)-f.first))
			if f.lie[x.A] == lies && (int(x.A) > i || f.d.n(8) == 0) {
				break
			}
		}
		if f.d.n(4) == 0 && i+2 < len(f.o.Code) {
			x.A = int64(i + 1 + f.d.n(2)) // past a Jump, perhaps
		}
	}
}

// drawn is an object.
func drawn(d *die, name string) *api.Object {
	f := draft{d: d, o: head(name)}
	f.part(1+d.n(25), api.Inst{Op: api.Halt})
	f.own = true
	f.part(1+d.n(25), api.Inst{Op: []int{api.Leave, api.Leave, api.Halt}[d.n(3)]})
	f.o.Procs[0].At = f.first + d.n(2)*d.n(len(f.o.Code)-f.first)
	if d.n(10) == 0 {
		f.o.Procs[0].At = d.n(len(f.o.Code))
	}
	return f.o
}

// 7.1: nothing that ends in another way than Fuel, Stack or Fault ends otherwise, or later, of drawn objects that are loaded and called.
func TestDrawn(t *testing.T) {
	d := die(2)
	found, gone := map[int]int{}, 0
	for range 4000 {
		var was, now []deed
		for i := range 6 {
			c := deed{call: []string{"a", "b"}[d.n(2)], arg: int64(d.n(4) - 1)}
			n := c
			if i < 2 {
				c.object = drawn(&d, []string{"a", "b"}[i])
				n.object = less(t, c.object)
				gone += len(c.object.Code) - len(n.object.Code)
			}
			was, now = append(was, c), append(now, n)
			way, want := ended(t, was, much)
			found[way]++
			if open(way) {
				break // from here on both may have something else
			}
			fuel := needed(t, was, much)
			if _, got := ended(t, now, fuel); got != want {
				var s []string
				for k := range 2 {
					if k < len(was) {
						s = append(s, words(was[k].object), words(now[k].object))
					}
				}
				t.Fatalf("%s\nby %d: %s; want %s", strings.Join(s, "\nless: "), fuel, got, want)
			}
		}
	}
	for _, way := range []int{api.Done, api.Zero, api.Bounds, api.Deep} {
		if found[way] < 50 {
			t.Errorf("only %d ended in %d", found[way], way)
		}
	}
	if gone < 10_000 {
		t.Errorf("only %d instructions were left out: this asks too little", gone)
	}
}
