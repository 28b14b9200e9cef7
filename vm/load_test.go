package vm_test

import (
	"fmt"
	"testing"

	"marquetry/api"
)

// 8.1: ErrForm: it is not Right, ahead of all else.
func TestNotRight(t *testing.T) {
	m := machine(t, object(t, "a", "halt; f: push 1; leave"))
	refuses(t, m, "nil", nil, api.ErrForm)
	refuses(t, m, "nothing", &api.Object{}, api.ErrForm)
	swaps(t, m, "nil", nil, api.ErrForm)
	swaps(t, m, "nothing", &api.Object{}, api.ErrForm)
	for what, change := range map[string]func(*api.Object){
		"no code":           func(o *api.Object) { o.Code = nil },
		"an end":            func(o *api.Object) { o.Code[2].Op = api.Say },
		"a place":           func(o *api.Object) { o.Procs[0].At = 3 },
		"a variable":        func(o *api.Object) { o.Code[0] = api.Inst{Op: api.Put, A: 4} },
		"a Use":             func(o *api.Object) { o.Code[0] = api.Inst{Op: api.Get} },
		"no Op":             func(o *api.Object) { o.Code[0].Op = 18 },
		"no name":           func(o *api.Object) { o.Names[0] = "F" },
		"no Proc":           func(o *api.Object) { o.Procs = nil },
		"it uses itself":    func(o *api.Object) { o.Uses = []api.Use{{Name: o.Name}} },
		"and none is there": func(o *api.Object) { o.Uses, o.Code = []api.Use{{Name: "zz"}}, nil },
	} {
		for _, name := range []string{"a", "b"} {
			o := changed(object(t, name, "halt; f: push 1; leave"), change)
			refuses(t, m, what, o, api.ErrForm)
			swaps(t, m, what, o, api.ErrForm)
		}
	}
	has(t, m, "b", "x", "none")
}

// 8.1: ErrTwice, ahead of what it uses; it is there however its code ended.
func TestTwice(t *testing.T) {
	m := machine(t)
	for name, text := range map[string]string{"a": "halt", "b": "push 1; push 0; do div; halt", "c": "pop; halt", "d": "a: jump a"} {
		if _, err := m.Load(object(t, name, "push 7; put x; "+text), 100); err != nil {
			t.Errorf("%s: %v", name, err)
		}
		refuses(t, m, name, object(t, name, "halt"), api.ErrTwice)
		refuses(t, m, name, object(t, name, "halt", object(t, "zz", "halt")), api.ErrTwice)
		has(t, m, name, "x", "7")
	}
	refuses(t, m, "what is refused is not there", object(t, "e", "halt", object(t, "zz", "halt")), api.ErrNone)
	has(t, m, "e", "x", "none")
	loads(t, m, object(t, "e", "halt"), 0, "fuel")
	has(t, m, "e", "x", "0")
}

// 8.1: Use by Use: ErrNone, ErrState.
func TestUses(t *testing.T) {
	a := object(t, "a", "halt; f: load 0; leave; g: push 1; leave") // f 1, g 0, t 3, x
	m := machine(t, a, object(t, "b", "halt"))
	need := "proc f 1\nproc g 0\narray t 3\nint x\n"
	for what, c := range map[string]struct {
		uses []api.Use
		want api.Errno
	}{
		"all":             {[]api.Use{{Name: "a", Names: []string{"f", "g", "t", "x"}, Need: need}}, api.OK},
		"some":            {[]api.Use{{Name: "a", Names: []string{"x"}, Need: "int x\n"}}, api.OK},
		"none":            {[]api.Use{{Name: "a"}, {Name: "b"}}, api.OK},
		"in their order":  {[]api.Use{{Name: "a", Names: []string{"x", "f"}, Need: "int x\nproc f 1\n"}}, api.OK},
		"twice":           {[]api.Use{{Name: "a", Names: []string{"x", "x"}, Need: "int x\nint x\n"}, {Name: "a", Names: []string{"f"}, Need: "proc f 1\n"}}, api.OK},
		"what is not":     {[]api.Use{{Name: "a", Names: []string{"y"}, Need: "none y\n"}}, api.OK},
		"nobody":          {[]api.Use{{Name: "zz"}}, api.ErrNone},
		"another order":   {[]api.Use{{Name: "a", Names: []string{"x", "f"}, Need: "proc f 1\nint x\n"}}, api.ErrState},
		"less":            {[]api.Use{{Name: "a", Names: []string{"x", "f"}, Need: "int x\n"}}, api.ErrState},
		"more":            {[]api.Use{{Name: "a", Names: []string{"x"}, Need: "int x\n\n"}}, api.ErrState},
		"no Names":        {[]api.Use{{Name: "a", Need: "int x\n"}}, api.ErrState},
		"no Need":         {[]api.Use{{Name: "a", Names: []string{"x"}}}, api.ErrState},
		"other Args":      {[]api.Use{{Name: "a", Names: []string{"f"}, Need: "proc f 2\n"}}, api.ErrState},
		"another Len":     {[]api.Use{{Name: "a", Names: []string{"t"}, Need: "array t 4\n"}}, api.ErrState},
		"it is there":     {[]api.Use{{Name: "a", Names: []string{"x"}, Need: "none x\n"}}, api.ErrState},
		"it is not there": {[]api.Use{{Name: "b", Names: []string{"f"}, Need: "proc f 1\n"}}, api.ErrState},
		"not, then none":  {[]api.Use{{Name: "a", Names: []string{"x"}}, {Name: "zz"}}, api.ErrState},
		"none, then not":  {[]api.Use{{Name: "zz"}, {Name: "a", Names: []string{"x"}}}, api.ErrNone},
		"behind others":   {[]api.Use{{Name: "a"}, {Name: "b"}, {Name: "a", Need: need}}, api.ErrState},
	} {
		o := changed(object(t, "c", "push 3; put x; halt"), func(o *api.Object) { o.Uses = c.uses })
		fresh := machine(t, a, object(t, "b", "halt"))
		_, err := fresh.Load(o, much)
		wrong(t, what, err, c.want)
		has(t, fresh, "c", "x", map[bool]string{true: "3", false: "none"}[c.want == api.OK])
		b := changed(o, func(o *api.Object) { o.Name = "d" }) // and likewise of one that is there
		loads(t, fresh, object(t, "d", "push 5; put x; halt"), much, "done")
		swaps(t, fresh, what, b, c.want)
	}
	refuses(t, m, "what is asked is what is there now", object(t, "c", "halt", object(t, "b", "halt; g: halt")), api.ErrState)
}

// 8.1: ErrFull: there are MaxModules, behind all else.
func TestFullOfObjects(t *testing.T) {
	m := machine(t)
	for i := range api.MaxModules {
		loads(t, m, object(t, fmt.Sprint("m", i), "halt"), much, "done")
	}
	refuses(t, m, "one more", object(t, "a", "halt"), api.ErrFull)
	refuses(t, m, "twice", object(t, "m3", "halt"), api.ErrTwice)
	refuses(t, m, "none", object(t, "a", "halt", object(t, "zz", "halt")), api.ErrNone)
	refuses(t, m, "not so", object(t, "a", "halt", object(t, "m1", "halt; f: halt")), api.ErrState)
	refuses(t, m, "not right", &api.Object{Name: "a"}, api.ErrForm)
	has(t, m, "a", "x", "none")
	has(t, m, "m9", "x", "0")
	swaps(t, m, "in another one's place", object(t, "m9", "halt", object(t, "m8", "halt")), api.OK)
}

// 8.1: Get: one number (Len 0), or Len; of those that are called alike the first one.
func TestGet(t *testing.T) {
	m := machine(t, object(t, "a", "push 4; put x; push 1; push 5; putat t; push 0; push 6; putat u; halt; f: halt"))
	for name, want := range map[string]string{"x": "4", "y": "0", "t": "0 5 0", "u": "6", "f": "none", "zz": "none", "": "none", "a": "none"} {
		has(t, m, "a", name, want)
		has(t, m, "b", name, "none")
		has(t, m, "", name, "none")
		has(t, machine(t), "a", name, "none")
	}
	o := changed(object(t, "b", "push 1; put x; push 2; put y; push 3; put t; halt"), func(o *api.Object) { o.Vars[1].Name, o.Vars[2].Name, o.Vars[3].Name = "z", "z", "x" })
	loads(t, m, o, much, "done")
	has(t, m, "b", "x", "1")
	has(t, m, "b", "z", "2")
}

// 8.1: Call: ErrMissing, ErrRange, in that order.
func TestCallRefused(t *testing.T) {
	a := object(t, "a", "halt; f: load 0; leave; g: push 1; leave; h: push 2; leave")
	m := machine(t, a)
	for _, c := range [][2]string{{"b", "f"}, {"", ""}, {"a", ""}, {"a", "zz"}, {"a", "x"}, {"a", "t"}, {"a", "y"}} {
		refusesCall(t, m, c[0], c[1], nil, api.ErrMissing)
		refusesCall(t, m, c[0], c[1], []int64{1}, api.ErrMissing)
		refusesCall(t, machine(t), c[0], c[1], nil, api.ErrMissing)
	}
	refusesCall(t, m, "a", "f", nil, api.ErrRange)
	refusesCall(t, m, "a", "f", []int64{1, 2}, api.ErrRange)
	refusesCall(t, m, "a", "g", []int64{1}, api.ErrRange)
	refusesCall(t, m, "a", "h", make([]int64, 1000), api.ErrRange)
	for what, c := range map[string]struct {
		change func(*api.Object)
		args   int
		want   api.Errno
	}{
		"others see none":       {func(o *api.Object) { o.Syms = o.Syms[1:] }, 1, api.ErrMissing},
		"others see a variable": {func(o *api.Object) { o.Syms[0].Args = -1 }, 1, api.ErrMissing},
		"a variable first":      {func(o *api.Object) { o.Syms = append([]api.Sym{{Name: "f", Args: -1}}, o.Syms...) }, 1, api.ErrMissing},
		"another first":         {func(o *api.Object) { o.Syms = append([]api.Sym{{Name: "f", Args: 2}}, o.Syms...) }, 1, api.ErrRange},
		"no Name":               {func(o *api.Object) { o.Names[0] = "z" }, 1, api.ErrRange},
		"a Proc of less":        {func(o *api.Object) { o.Procs[0].Args = 0 }, 1, api.ErrRange},
		"as the Proc has":       {func(o *api.Object) { o.Procs[0].Args = 0 }, 0, api.ErrRange},
		"a Proc of more":        {func(o *api.Object) { o.Procs[0].Args = 2 }, 1, api.ErrRange},
		"another Proc first":    {func(o *api.Object) { o.Names[0], o.Names[1] = "z", "f" }, 1, api.ErrRange},
		"two that fit":          {func(o *api.Object) { o.Names[2] = "f" }, 1, api.OK},
		"two Syms":              {func(o *api.Object) { o.Syms = append(o.Syms, api.Sym{Name: "f", Args: -1}) }, 1, api.OK},
	} {
		t.Run(what, func(t *testing.T) {
			m := machine(t, changed(a, c.change))
			args := []int64{7, 8}[:c.args]
			if c.want == api.OK {
				calls(t, m, "a", "f", args, much, "done", 7)
			} else {
				refusesCall(t, m, "a", "f", args, c.want)
			}
		})
	}
}

// 8.1: its first locals are args, all others 0; what it told is the last number on the stack, if it is done.
func TestCall(t *testing.T) {
	m := machine(t, object(t, "a", "push 5; put x; halt; f: load 1; say; load 0; store 1; load 1; leave; g: get x; push 1; do +; put x; get x; leave; h: load 0; say; load 1; say; load 2; say; push 1; push 2; halt"))
	calls(t, m, "a", "f", []int64{7}, much, "done 0", 7)
	calls(t, m, "a", "f", []int64{-9}, much, "done 0", -9)
	calls(t, m, "a", "g", nil, much, "done", 6)
	calls(t, m, "a", "g", []int64{}, much, "done", 7)
	calls(t, m, "a", "h", []int64{3, 4, 5}, much, "done 3 4 5", 2)
	has(t, m, "a", "x", "7")
	for text, want := range map[string]int64{
		"g: halt": 0, "g: push 3; pop; halt": 0, "g: push 3; halt": 3, "g: push 3; push 4; leave": 4,
		"g: push 9; push 1; invoke f; leave; f: halt":                9, // another procedure's, too
		"g: push 9; push 1; invoke f; leave; f: push 8; halt":        8,
		"g: push 9; push 1; invoke f; do +; leave; f: load 0; leave": 10,
	} {
		calls(t, machine(t, object(t, "a", "halt; "+text)), "a", "g", nil, much, "done", want)
	}
	for text, want := range map[string]string{"push 3; push 0; do div; halt": "zero", "push 3; push 3; getat t; halt": "bounds", "push 3; pop; pop; halt": "fault", "push 3; say; a: push 4; say; jump a": "full", "push 1; a: jump a": "fuel", "a: push 2; jump a": "stack", "push 1; invoke g; halt": "deep"} {
		m := machine(t, object(t, "a", "halt; g: "+text))
		if e, n, err := m.Call("a", "g", nil, 30_000); shown(api.End{Way: e.Way}) != want || n != 0 || err != nil {
			t.Errorf("%s: %s, %d, %v; want %s, 0", text, shown(e), n, err, want)
		}
	}
}

// 8.2: what is used of another object is what that one has: its variables, its procedures, which use what it uses.
func TestUsed(t *testing.T) {
	a := object(t, "a", "push 5; put x; push 1; push 6; putat t; halt; f: get x; load 0; do +; put x; get x; leave")
	b := object(t, "b", "push 50; put x; halt; f: load 0; push 1; do +; invoke a.f; get x; do +; leave", a)
	m := machine(t, a, b)
	loads(t, m, object(t, "c", "push 500; put x; get a.x; say; push 1; getat a.t; say; get a.t; say; get b.x; say; push 2; invoke b.f; say; get a.x; say; push 0; getat a.x; say; get x; say; halt", b, a), much, "done 5 6 0 50 58 8 8 500")
	has(t, m, "a", "x", "8")
	has(t, m, "b", "x", "50")
	calls(t, m, "b", "f", []int64{0}, much, "done", 59)
	loads(t, m, object(t, "d", "push 3; getat a.t; halt", a), much, "bounds")
	loads(t, m, object(t, "e", "push 1; getat a.x; halt", a), much, "bounds")
	loads(t, m, object(t, "g", "push 9; invoke a.f; pop; pop; halt", a), much, "fault")
}

// 8.2: what others see of an object is not what it has: Bounds, Fault, where there is none such; the first, where there are several; and what they do not see is found, too.
func TestUsedIsThere(t *testing.T) {
	a := changed(object(t, "a", "push 1; put x; push 2; put y; push 3; put t; halt; f: load 0; leave; g: push 7; leave; h: push 8; leave"), func(o *api.Object) {
		o.Vars[1].Name = "z"
		o.Vars[2].Name = "z" // first of all a number
		o.Names[2] = "g"     // without parameters, first of all
		o.Syms = []api.Sym{{Name: "g", Args: 3}, {Name: "t", Args: -1}, {Name: "z", Len: 3, Args: -1}, {Name: "k", Args: 0}}
	})
	m := machine(t, a)
	c := func(text string) *api.Object { return object(t, "c", text, a) }
	for text, want := range map[string]string{
		"get a.z; say; push 0; getat a.z; say; halt": "done 2 2",
		"push 1; getat a.z; halt":                    "bounds",
		"get a.t; halt":                              "bounds",
		"push 0; getat a.t; halt":                    "bounds",
		"getat a.t; halt":                            "fault", // what is TAKEN comes first
		"get a.g; halt":                              "bounds",
		"invoke a.k; halt":                           "fault",
		"invoke a.t; halt":                           "fault",
		"invoke a.g; say; halt":                      "done 7",
	} {
		loads(t, machine(t, a), c(text), much, want)
	}
	unseen := changed(c("push 4; invoke a.g; say; get a.k; say; halt"), func(o *api.Object) {
		o.Uses[0].Names, o.Uses[0].Need = []string{"f", "u", "x"}, "none f\nnone u\nnone x\n"
		o.Code[1].A, o.Code[3].A = 0, 2
	})
	loads(t, m, unseen, much, "done 4 1")
	// Fault comes ahead of Deep, and Bounds ahead of Stack.
	deep := "push 28; invoke f; halt; f: load 0; else b; load 0; push 1; do -; invoke f; leave; b: invoke g; leave; g: "
	loads(t, machine(t, a), c(deep+"invoke a.g; leave"), much, "deep")
	loads(t, machine(t, a), c(deep+"invoke a.k; leave"), much, "fault")
	loads(t, machine(t, a), c(up+"get a.t; halt"), 10*much, "bounds")
	loads(t, machine(t, a), c(up+"get a.z; halt"), 10*much, "stack")
}
