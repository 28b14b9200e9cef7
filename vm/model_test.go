package vm_test

import (
	"slices"

	"marquetry/api"
	"marquetry/code"
	"marquetry/obj"
	"marquetry/run"
	"marquetry/sym"
)

// model is a Machine as one would write it who lets procedures be the language's own calls: each has a stack of its own, and an end is thrown.
type model struct {
	objects map[string]*api.Object
	vars    map[string][][]int64
}

// ended is thrown to end all.
type ended struct {
	way  int
	told int64
}

// trip is what goes on until it ends.
type trip struct {
	*model
	fuel   int
	procs  int
	stacks []*[]int64 // of all that goes, the last one's last
	out    []int64
}

// does does something: how it ended, and what it told.
func (m *model) does(fuel int, something func(*trip) int64) (e api.End, n int64) {
	r := &trip{model: m, fuel: fuel}
	defer func() {
		if t, is := recover().(ended); is {
			e.Way, n = t.way, t.told
		}
		e.Out = r.out
	}()
	e.Way = api.Fault // a panic that is none of ours
	n = something(r)
	e.Way = api.Done
	return e, n
}

// load is Load.
func (m *model) load(o *api.Object, fuel int) (api.End, error) {
	if !obj.Right(o) {
		return api.End{}, api.ErrForm
	}
	if m.objects[o.Name] != nil {
		return api.End{}, api.ErrTwice
	}
	if err := m.uses(o); err != nil {
		return api.End{}, err
	}
	if len(m.objects) >= api.MaxModules {
		return api.End{}, api.ErrFull
	}
	m.put(o)
	e, _ := m.does(fuel, func(r *trip) int64 { return r.code(o, 0, nil) })
	return e, nil
}

// uses says what is wrong with what an object uses.
func (m *model) uses(o *api.Object) error {
	for _, u := range o.Uses {
		if m.objects[u.Name] == nil {
			return api.ErrNone
		}
		if sym.Needs(m.objects[u.Name].Syms, u.Names) != u.Need {
			return api.ErrState
		}
	}
	return nil
}

// put lays an object there, with what was there of its name.
func (m *model) put(o *api.Object) {
	was, had := m.objects[o.Name], m.vars[o.Name]
	m.objects[o.Name], m.vars[o.Name] = o, nil
	for _, g := range o.Vars {
		l := make([]int64, max(1, g.Len))
		for i := 0; was != nil && i < len(was.Vars); i++ {
			if h := was.Vars[i]; h.Name == g.Name && h.Len == g.Len {
				l = slices.Clone(had[i])
				break
			}
		}
		m.vars[o.Name] = append(m.vars[o.Name], l)
	}
}

// swap is Swap.
func (m *model) swap(o *api.Object) error {
	if !obj.Right(o) {
		return api.ErrForm
	}
	if m.objects[o.Name] == nil {
		return api.ErrMissing
	}
	if err := m.uses(o); err != nil {
		return err
	}
	led := slices.Clone(o.Uses) // all to which it leads
	for i := 0; i < len(led); i++ {
		for _, u := range m.objects[led[i].Name].Uses {
			if !slices.ContainsFunc(led, func(v api.Use) bool { return v.Name == u.Name }) {
				led = append(led, u)
			}
		}
	}
	for _, u := range led {
		if u.Name == o.Name {
			return api.ErrCycle
		}
	}
	for _, p := range m.objects {
		for _, u := range p.Uses {
			if u.Name == o.Name && u.Need != sym.Needs(o.Syms, u.Names) {
				return api.ErrState
			}
		}
	}
	m.put(o)
	return nil
}

// call is Call.
func (m *model) call(module, proc string, args []int64, fuel int) (api.End, int64, error) {
	o := m.objects[module]
	if o == nil {
		return api.End{}, 0, api.ErrMissing
	}
	s := sym.Find(o.Syms, proc)
	if s < 0 || o.Syms[s].Args < 0 {
		return api.End{}, 0, api.ErrMissing
	}
	i := slices.Index(o.Names, proc)
	if o.Syms[s].Args != len(args) || i < 0 || o.Procs[i].Args != o.Syms[s].Args {
		return api.End{}, 0, api.ErrRange
	}
	e, n := m.does(fuel, func(r *trip) int64 { return r.proc(o, i, args) })
	return e, n, nil
}

// get is Get.
func (m *model) get(module, name string) ([]int64, error) {
	if o := m.objects[module]; o != nil {
		for i, g := range o.Vars {
			if g.Name == name {
				return m.vars[module][i], nil
			}
		}
	}
	return nil, api.ErrMissing
}

// proc does a procedure: what it told.
func (r *trip) proc(o *api.Object, i int, args []int64) int64 {
	r.procs++
	n := r.code(o, o.Procs[i].At, append(slices.Clone(args), make([]int64, o.Procs[i].Locals-len(args))...))
	r.procs--
	return n
}

// code does code until it leaves: with what.
func (r *trip) code(o *api.Object, at int, locals []int64) int64 {
	stack := []int64{}
	r.stacks = append(r.stacks, &stack)
	for {
		if r.fuel <= 0 {
			panic(ended{way: api.Fuel})
		}
		r.fuel--
		x := o.Code[at]
		at++
		switch x.Op {
		case api.Jump:
			at = int(x.A)
		case api.Else:
			if r.take() == 0 {
				at = int(x.A)
			}
		case api.Leave:
			n := r.take()
			r.stacks = r.stacks[:len(r.stacks)-1]
			return n
		case api.Halt:
			whole := []int64{0}
			for _, l := range r.stacks {
				whole = append(whole, *l...)
			}
			panic(ended{way: api.Done, told: whole[len(whole)-1]})
		case api.Load, api.Store:
			need(x.A < int64(len(locals)), api.Fault)
			if x.Op == api.Load {
				r.give(locals[x.A])
			} else {
				locals[x.A] = r.take()
			}
		case api.Invoke:
			r.invoke(o, x)
		default:
			r.plain(o, x)
		}
	}
}

// need ends all, unless it is so.
func need(is bool, way int) {
	if !is {
		panic(ended{way: way})
	}
}

func (r *trip) take() int64 {
	l := r.stacks[len(r.stacks)-1]
	need(len(*l) > 0, api.Fault)
	n := (*l)[len(*l)-1]
	*l = (*l)[:len(*l)-1]
	return n
}

func (r *trip) give(n int64) {
	many := 0
	for _, l := range r.stacks {
		many += len(*l)
	}
	need(many < api.MaxStack, api.Stack)
	l := r.stacks[len(r.stacks)-1]
	*l = append(*l, n)
}

// item is where number k of what an instruction names lies.
func (r *trip) item(o *api.Object, x api.Inst, k int64) *int64 {
	l := []int64{}
	if own := x.Op == api.Put || x.Op == api.PutAt || x.B == -1; own {
		l = r.vars[o.Name][x.A]
	} else {
		l, _ = r.get(o.Uses[x.B].Name, o.Uses[x.B].Names[x.A])
	}
	need(k >= 0 && k < int64(len(l)), api.Bounds)
	return &l[k]
}

// plain does an instruction behind which the next one comes.
func (r *trip) plain(o *api.Object, x api.Inst) {
	switch x.Op {
	case api.Push:
		r.give(x.A)
	case api.Pop:
		r.take()
	case api.Get:
		r.give(*r.item(o, x, 0))
	case api.GetAt:
		k := r.take()
		r.give(*r.item(o, x, k))
	case api.Put:
		n := r.take()
		*r.item(o, x, 0) = n
	case api.PutAt:
		n := r.take()
		k := r.take()
		*r.item(o, x, k) = n
	case api.Do:
		b := r.take()
		a := r.take()
		n, ok := run.Both(code.Marks[x.A], a, b)
		need(ok, api.Zero)
		r.give(n)
	case api.Neg:
		r.give(0 - r.take())
	case api.Not:
		n, _ := run.Both("=", r.take(), 0)
		r.give(n)
	case api.Say:
		n := r.take()
		need(len(r.out) < api.MaxOut, api.Full)
		r.out = append(r.out, n)
	}
}

func (r *trip) invoke(o *api.Object, x api.Inst) {
	of, i := o, int(x.A)
	if x.B >= 0 {
		of = r.objects[o.Uses[x.B].Name]
		i = slices.Index(of.Names, o.Uses[x.B].Names[x.A])
	}
	need(i >= 0, api.Fault)
	need(r.procs < api.MaxCalls, api.Deep)
	args := make([]int64, of.Procs[i].Args)
	for k := range args {
		args[len(args)-1-k] = r.take()
	}
	r.give(r.proc(of, i, args))
}
