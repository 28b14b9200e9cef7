package opt_test

import (
	"fmt"
	"reflect"
	"slices"
	"testing"
	"time"

	"marquetry/api"
	"marquetry/obj"
	"marquetry/opt"
	"marquetry/plain"
	"marquetry/vm"
)

// 7.1: ErrArg: o is not Right, and nothing beside it.
func TestNotRight(t *testing.T) {
	for what, change := range map[string]func(*api.Object){
		"no code":    func(o *api.Object) { o.Code = nil },
		"no name":    func(o *api.Object) { o.Name = "" },
		"a place":    func(o *api.Object) { o.Code[0].A = 9 },
		"an end":     func(o *api.Object) { o.Code[1].Op = api.Say },
		"a Proc":     func(o *api.Object) { o.Procs[0].At = -1 },
		"too much":   func(o *api.Object) { o.Code = slices.Repeat(o.Code, api.MaxCode/2+1) },
		"never done": func(o *api.Object) { o.Code = append(o.Code, api.Inst{Op: 99}, o.Code[1]) },
	} {
		o := object(t, "b", "jump a; a: halt")
		change(o)
		p, err := opt.Less(o)
		if e, place := plain.Place(err); e != api.ErrArg || place != -1 || p != nil {
			t.Errorf("%s: %v, error %d at %d; want ErrArg", what, p, e, place)
		}
	}
	if p, err := opt.Less(nil); api.Tell(err) != api.ErrArg || p != nil {
		t.Errorf("nil: %v, %v", p, err)
	}
}

// made asks what is made of code.
func made(t *testing.T, text, want string) {
	t.Helper()
	if got, w := words(less(t, object(t, "b", text))), words(object(t, "b", want)); got != w {
		t.Errorf("%s:\n%s\nwant %s", text, got, w)
	}
}

// 7.1: what is made of what stands together.
func TestTogether(t *testing.T) {
	for text, want := range map[string]string{
		"push 2; push 3; do +; say; halt":                                            "push 5; say; halt",
		"push 1; push 2; push 3; push 4; do *; do -; do <; say; halt":                "push 0; say; halt",
		"push 9223372036854775807; push 1; do +; say; halt":                          "push -9223372036854775808; say; halt",
		"push -7; push 2; do div; say; push -7; push 2; do mod; halt":                "push -4; say; push 1; halt",
		"push 3; neg; say; push 0; not; say; push 4; not; say; halt":                 "push -3; say; push 1; say; push 0; say; halt",
		"push 3; pop; get x; pop; say; halt":                                         "say; halt",
		"load 1; pop; halt":                                                          "halt",
		"get x; push 0; do +; push 0; do -; push 1; do *; push 1; do div; say; halt": "get x; say; halt",
		"get x; push -1; do *; say; get x; push -1; do div; say; halt":               "get x; neg; say; get x; neg; say; halt",
		"get x; push 0; do =; say; get x; push 0; do #; say; halt":                   "get x; not; say; get x; not; not; say; halt",
		"get x; push 0; do #; not; say; halt":                                        "get x; not; say; halt",
		"get x; neg; neg; say; get x; neg; not; say; halt":                           "get x; say; get x; not; say; halt",
		"get x; get y; neg; do +; say; get x; get y; neg; do -; say; halt":           "get x; get y; do -; say; get x; get y; do +; say; halt",
		"get x; not; not; not; say; halt":                                            "get x; not; say; halt",
		"get x; not; not; say; halt":                                                 "get x; not; not; say; halt",
		"get x; get y; do +; pop; get x; neg; pop; get y; not; pop; halt":            "halt",
		"get x; put x; halt; f: load 1; store 1; load 0; leave":                      "halt; f: load 0; leave",
		"halt; f: load 0; store 1; load 1; leave":                                    "halt; f: load 0; leave",
		"get x; get y; do -; not; say; halt":                                         "get x; get y; do =; say; halt",
	} {
		made(t, text, want)
	}
	for mark, opposite := range map[string]string{"=": "#", "#": "=", "<": ">=", "<=": ">", ">": "<=", ">=": "<"} {
		made(t, "get x; get y; do "+mark+"; not; say; halt", "get x; get y; do "+opposite+"; say; halt")
		made(t, "get x; get y; do "+mark+"; not; not; say; halt", "get x; get y; do "+mark+"; say; halt")
	}
}

// 7.1: what is made of what goes elsewhere, and of what is never done.
func TestElsewhere(t *testing.T) {
	for text, want := range map[string]string{
		"jump a; a: halt":                                                                     "halt",
		"jump b; a: push 1; say; halt; b: jump a":                                             "push 1; say; halt",
		"halt; push 1; say; halt; f: push 2; leave":                                           "halt; f: push 2; leave",
		"halt; f: jump b; a: push 3; say; b: push 2; leave":                                   "halt; f: push 2; leave",
		"push 0; else a; push 1; say; a: halt":                                                "halt",
		"push 5; else a; push 1; say; a: halt":                                                "push 1; say; halt",
		"a: push 1; else b; get x; say; jump a; b: halt":                                      "a: get x; say; jump a",
		"get x; else a; a: halt":                                                              "halt",
		"get x; else a; jump b; a: jump c; b: push 1; say; c: halt":                           "get x; else c; push 1; say; c: halt",
		"get x; else a; push 1; say; jump b; a: push 2; say; b: jump c; push 3; say; c: halt": "get x; else a; push 1; say; halt; a: push 2; say; halt",
		"a: get x; else b; get y; else c; push 1; say; c: jump a; b: halt":                    "a: get x; else b; get y; else a; push 1; say; jump a; b: halt",
		"get x; not; not; else a; push 1; say; a: get x; neg; else b; push 2; say; b: halt":   "get x; else a; push 1; say; a: get x; else b; push 2; say; b: halt",
		"get x; get y; do <; else a; jump b; a: push 1; say; b: push 2; say; halt":            "get x; get y; do >=; else b; push 1; say; b: push 2; say; halt",
		"get x; not; else a; jump b; a: push 1; say; b: push 2; say; halt":                    "get x; else b; push 1; say; b: push 2; say; halt",
		"get x; else a; push 1; put x; jump b; a: push 2; put x; b: get x; say; halt":         "get x; else a; push 1; jump c; a: push 2; c: put x; get x; say; halt",
		"push 9; put y; a: get y; else b; get y; push 1; do -; put y; jump a; b: halt":        "push 9; a: put y; get y; else b; get y; push 1; do -; jump a; b: halt",
		// x or y, x and y, and what is asked of them.
		"get x; else a; push 1; jump b; a: get y; not; not; b: else c; push 7; say; c: halt":               "get x; else a; jump d; a: get y; else c; d: push 7; say; c: halt",
		"get x; else a; get y; not; not; jump b; a: push 0; b: else c; push 7; say; c: halt":               "get x; else c; get y; else c; push 7; say; c: halt",
		"get x; push 3; do =; else a; push 1; jump b; a: get y; not; not; b: else c; push 7; say; c: halt": "get x; push 3; do #; else d; get y; else c; d: push 7; say; c: halt",
		"push 1; else a; push 2; not; not; jump b; a: push 0; b: say; halt":                                "push 1; say; halt",
		// What goes round stays round.
		"a: jump a":                "a: jump a",
		"push 1; put x; a: jump a": "push 1; put x; a: jump a",
	} {
		made(t, text, want)
	}
}

// 7.1: what may end stays, so that it ends; and nothing lies longer on the stack than it did.
func TestStays(t *testing.T) {
	for _, text := range []string{
		"push 1; push 0; do div; say; halt", "push 1; push 0; do mod; say; halt", "get x; get y; do div; pop; halt", "get x; get y; do mod; pop; halt", "get x; push 0; do div; say; halt", "get x; push 0; do *; say; halt",
		"get a.k; pop; halt", "get a.x; pop; halt", "push 1; getat t; pop; halt", "push 5; getat t; pop; halt", "push 1; getat a.t; pop; halt", "get a.x; put x; halt", "get x; put y; halt", "get a.x; put t; halt",
		"invoke f; pop; push 0; leave", "get x; invoke a.f; pop; push 0; leave", "get x; say; get x; say; halt", "put x; get x; say; halt", "push 3; halt", "push 3; push 4; leave", "halt; f: load 1; store 0; load 0; say; load 0; leave", "halt; f: store 0; load 1; leave",
		"get x; else a; push 1; say; jump b; a: push 2; say; b: push 3; leave",               // a Say may end, so it is not shared
		"get x; else a; get x; get y; do div; jump b; a: get y; get x; do div; b: say; halt", // nor what divides
		"a: get x; else b; get y; not; b: push 3; say; jump a",                               // what is aimed at is not one with what stands ahead of it
	} {
		made(t, text, text)
	}
}

// 7.1: ends that are not met by drawn code: the stack's end is met by no more code than it was.
func TestStackAndFull(t *testing.T) {
	fill := fmt.Sprintf("push %d; put x; a: get x; else b; get x; push 1; do -; put x; push 4; jump a; b: push 4; push 4; ", api.MaxStack-2)
	for text, want := range map[string]int{
		"halt": api.Done, "neg; neg; halt": api.Done, "pop; push 0; leave": api.Done, "get x; pop; pop; get y; halt": api.Done, "do +; pop; get x; leave": api.Done, "not; not; else c; get x; put x; c: get x; halt": api.Done, "invoke f; pop; push 0; leave; f: load 0; store 1; load 1; leave": api.Done,
	} {
		o := object(t, "a", fill+text)
		for i, p := range []*api.Object{o, less(t, o)} {
			var m vm.Machine
			e, err := m.Load(p, 200_000)
			if err != nil || e.Way != want && (i == 1 || e.Way != api.Stack) {
				t.Errorf("%s\n%v, %v; want %d", words(p), e, err, want)
			}
		}
	}
	o := object(t, "a", "a: push 2; push 2; do +; say; push 1; else b; jump a; b: halt")
	var m vm.Machine
	if e, err := m.Load(less(t, o), 3*api.MaxOut+2); err != nil || e.Way != api.Full || len(e.Out) != api.MaxOut {
		t.Errorf("%v, %v", e, err)
	}
}

// 7.1: procedures that begin alike, or anywhere, or are called alike, are all there.
func TestProcs(t *testing.T) {
	o := object(t, "a", "jump a; a: push 1; say; halt; push 2; say; b: jump c; push 9; say; c: push 3; leave")
	o.Names = []string{"f", "g", "f", "h", "i"}
	o.Procs = []api.Entry{{At: 4, Args: 1, Locals: 3}, {At: 6}, {At: 9, Args: 2, Locals: 2}, {At: 0, Locals: 10}, {At: 6, Args: 3, Locals: 4}}
	p := less(t, o)
	want := []api.Entry{{At: 3, Args: 1, Locals: 3}, {At: 5}, {At: 5, Args: 2, Locals: 2}, {At: 0, Locals: 10}, {At: 5, Args: 3, Locals: 4}}
	if !slices.Equal(p.Procs, want) || len(p.Code) != 7 {
		t.Errorf("%+v; want %+v\n%s", p.Procs, want, words(p))
	}
	bare := &api.Object{Name: "a", Code: []api.Inst{{Op: api.Push, A: 1}, {Op: api.Pop}, {Op: api.Halt}}}
	if p, err := opt.Less(bare); err != nil || len(p.Code) != 1 {
		t.Errorf("%v, %v", p, err)
	}
}

// P4: nothing that is handed in is written into, and what comes out is the caller's.
func TestFreshMemory(t *testing.T) {
	text := "push 1; neg; say; halt; f: load 0; get a.x; do +; leave"
	o := object(t, "b", text)
	for range 2 {
		p := less(t, o)
		clear(p.Syms)
		clear(p.Uses[0].Names)
		clear(p.Uses)
		clear(p.Vars)
		clear(p.Procs)
		clear(p.Names)
		clear(p.Code)
		if !reflect.DeepEqual(o, object(t, "b", text)) {
			t.Fatalf("%+v was changed", o)
		}
	}
}

// P1: it ends soon, of as much code as there may be, also if each round sees but little, or code goes round.
func TestMuch(t *testing.T) {
	began := time.Now()
	fills := func(again ...api.Inst) []api.Inst { return slices.Repeat(again, (api.MaxCode-1)/len(again)) }
	ahead := func(x api.Inst, by int) func(i int) api.Inst {
		return func(i int) api.Inst { x.A = int64(min(i+by, api.MaxCode-1)); return x }
	}
	all := map[string][]api.Inst{
		"pushes": fills(api.Inst{Op: api.Push, A: 1}), "folded": fills(api.Inst{Op: api.Push, A: 1}, api.Inst{Op: api.Push, A: 2}, api.Inst{Op: api.Do}, api.Inst{Op: api.Pop}), "nots": fills(api.Inst{Op: api.Not}), "negs": fills(api.Inst{Op: api.Neg}),
		"all pushed, then done": append(slices.Repeat([]api.Inst{{Op: api.Push, A: 1}}, api.MaxCode/2), slices.Repeat([]api.Inst{{Op: api.Do}}, api.MaxCode/2-1)...),
	}
	for what, x := range map[string]func(int) api.Inst{"jumps": ahead(api.Inst{Op: api.Jump}, 1), "jumps over one": ahead(api.Inst{Op: api.Jump}, 2), "elses": ahead(api.Inst{Op: api.Else}, 3)} {
		for i := range api.MaxCode - 1 {
			all[what] = append(all[what], x(i))
		}
	}
	for i := range (api.MaxCode - 1) / 4 { // each can be left out only when the one ahead of it was
		all["bit by bit"] = append(all["bit by bit"], api.Inst{Op: api.Push, A: 1}, api.Inst{Op: api.Push, A: 1}, api.Inst{Op: api.Do, A: 5}, api.Inst{Op: api.Else, A: int64(min(4*i+6, api.MaxCode-1))})
	}
	for what, l := range all {
		for _, last := range []api.Inst{{Op: api.Halt}, {Op: api.Jump}, {Op: api.Leave}} {
			l := append(slices.Clone(l), slices.Repeat([]api.Inst{last}, api.MaxCode-len(l))...)
			o := &api.Object{Name: "a", Code: l}
			p, err := opt.Less(o)
			if err != nil || !obj.Right(p) || len(p.Code) > len(l) {
				t.Fatalf("%s: %v", what, err)
			}
			if again, err := opt.Less(p); err != nil || len(again.Code) > len(p.Code) {
				t.Errorf("%s: %v", what, err)
			}
		}
	}
	if took := time.Since(began); took > 20*time.Second {
		t.Errorf("it took %v", took)
	}
}
