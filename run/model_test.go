package run_test

import (
	"math/big"
	"slices"

	"marquetry/api"
	"marquetry/check"
	"marquetry/sym"
)

// model is a World as one would write it who throws nothing: whatever goes is handed what is to be done behind it, and an end is that nobody does it.
type model struct {
	names []string
	trees map[string]api.Module
	vars  map[string][]int64 // by module, a dot, and name
}

// trip is what goes on until it ends.
type trip struct {
	*model
	fuel int
	out  []int64
}

// site is where something stands: in which module, with which own variables, within how many procedures; and what is done behind a Return.
type site struct {
	module string
	own    map[string]*int64
	deep   int
	back   func(int64) int
}

// load is Load.
func (m *model) load(c api.Module, fuel int) (api.End, error) {
	if slices.Contains(m.names, c.Name) {
		return api.End{}, api.ErrTwice
	}
	if err := check.Check(c, m.seen()); err != nil {
		return api.End{}, err
	}
	if len(m.names) >= api.MaxModules {
		return api.End{}, api.ErrFull
	}
	m.names = append(m.names, c.Name)
	m.put(c)
	r := trip{model: m, fuel: fuel}
	way := r.stmts(site{module: c.Name, back: func(int64) int { return api.Done }}, c.Body, func() int { return api.Done })
	return api.End{Way: way, Out: r.out}, nil
}

// put lays a module there; what it has of the same length stays.
func (m *model) put(c api.Module) {
	was := m.trees[c.Name]
	for _, g := range c.Vars {
		kept := slices.ContainsFunc(was.Vars, func(o api.Global) bool { return o.Name == g.Name && o.Len == g.Len })
		if !kept {
			m.vars[c.Name+"."+g.Name] = make([]int64, max(1, g.Len))
		}
	}
	m.trees[c.Name] = c
}

// seen is what others see of all.
func (m *model) seen() map[string][]api.Sym {
	seen := map[string][]api.Sym{}
	for name, c := range m.trees {
		seen[name] = sym.Of(c)
	}
	return seen
}

// swap is Swap.
func (m *model) swap(c api.Module) error {
	if !slices.Contains(m.names, c.Name) {
		return api.ErrMissing
	}
	if err := check.Check(c, m.seen()); err != nil {
		return err
	}
	for all := slices.Clone(c.Imports); len(all) > 0; all = all[1:] {
		if all[0] == c.Name {
			return api.ErrCycle
		}
		all = append(all, m.trees[all[0]].Imports...)
	}
	for _, name := range m.names {
		for _, used := range sym.Used(m.trees[name], c.Name) {
			was, now := sym.Of(m.trees[c.Name]), sym.Of(c)
			i, k := sym.Find(was, used), sym.Find(now, used)
			if i < 0 || k < 0 || was[i] != now[k] {
				return api.ErrState
			}
		}
	}
	m.put(c)
	return nil
}

// call is Call.
func (m *model) call(module, proc string, args []int64, fuel int) (api.End, int64, error) {
	i := slices.IndexFunc(m.trees[module].Procs, func(c api.Proc) bool { return c.Name == proc && c.Seen })
	if i < 0 {
		return api.End{}, 0, api.ErrMissing
	}
	if len(m.trees[module].Procs[i].Params) != len(args) {
		return api.End{}, 0, api.ErrRange
	}
	r, told := trip{model: m, fuel: fuel}, int64(0)
	way := r.apply(site{module: module}, proc, args, func(n int64) int { told = n; return api.Done })
	return api.End{Way: way, Out: r.out}, told, nil
}

// stmts does statements, and then k.
func (r *trip) stmts(v site, l []api.Stmt, k func() int) int {
	if len(l) == 0 {
		return k()
	}
	return r.step(func() int {
		return r.stmt(v, l[0], func() int { return r.stmts(v, l[1:], k) })
	})
}

// step is a step, and then k.
func (r *trip) step(k func() int) int {
	if r.fuel <= 0 {
		return api.Fuel
	}
	r.fuel--
	return k()
}

// stmt does a statement, and then k.
func (r *trip) stmt(v site, s api.Stmt, k func() int) int {
	if s.Code == api.Set && s.Index != nil {
		return r.expr(v, s.Index, func(i int64) int {
			return r.expr(v, s.Value, func(n int64) int { return set(r.at(v, "", s.Name, i), n, k) })
		})
	}
	return r.expr(v, s.Value, func(n int64) int {
		switch {
		case s.Code == api.Set:
			return set(r.at(v, "", s.Name, 0), n, k)
		case s.Code == api.Return:
			return v.back(n)
		case s.Code == api.Write && len(r.out) == api.MaxOut:
			return api.Full
		case s.Code == api.Write:
			r.out = append(r.out, n)
		case s.Code == api.If && n != 0:
			return r.stmts(v, s.Then, k)
		case s.Code == api.If:
			return r.stmts(v, s.Else, k)
		case s.Code == api.While && n != 0:
			return r.stmts(v, s.Then, func() int {
				return r.step(func() int { return r.stmt(v, s, k) })
			})
		}
		return k()
	})
}

// set sets what lies there, if there is such a one, and then k.
func set(at *int64, n int64, k func() int) int {
	if at == nil {
		return api.Bounds
	}
	*at = n
	return k()
}

// at is where a variable's number lies; nil: there is none such.
func (r *trip) at(v site, module, name string, i int64) *int64 {
	if module == "" {
		if own := v.own[name]; own != nil {
			return own
		}
		module = v.module
	}
	l := r.vars[module+"."+name]
	if i < 0 || i >= int64(len(l)) {
		return nil
	}
	return &l[i]
}

// expr reckons an expression, and then k of it.
func (r *trip) expr(v site, x *api.Expr, k func(int64) int) int {
	switch x.Code {
	case api.Num:
		return k(x.N)
	case api.Var:
		return k(*r.at(v, x.Module, x.Name, 0))
	case api.Apply:
		in := v
		if x.Module != "" {
			in.module = x.Module
		}
		return r.exprs(v, x.Args, nil, func(args []int64) int { return r.apply(in, x.Name, args, k) })
	}
	return r.expr(v, x.Left, func(a int64) int {
		switch {
		case x.Code == api.Item:
			if at := r.at(v, x.Module, x.Name, a); at != nil {
				return k(*at)
			}
			return api.Bounds
		case x.Op == "not" && a == 0, x.Op == "or" && a != 0:
			return k(1)
		case x.Op == "not", x.Op == "and" && a == 0:
			return k(0)
		case x.Code == api.Un:
			return k(-a)
		}
		return r.expr(v, x.Right, func(b int64) int { return both(x.Op, a, b, k) })
	})
}

// exprs reckons expressions, from the left, and then k of them all.
func (r *trip) exprs(v site, l []*api.Expr, ahead []int64, k func([]int64) int) int {
	if len(l) == 0 {
		return k(ahead)
	}
	return r.expr(v, l[0], func(n int64) int { return r.exprs(v, l[1:], append(slices.Clone(ahead), n), k) })
}

// both reckons a mark of two by numbers without end, and then k of it; and, or: of its right side.
func both(op string, a, b int64, k func(int64) int) int {
	x, y, z := big.NewInt(a), big.NewInt(b), new(big.Int)
	holds := map[string]bool{"and": b != 0, "or": b != 0, "=": a == b, "#": a != b, "<": a < b, "<=": a <= b, ">": a > b, ">=": a >= b}
	if is, there := holds[op]; there {
		if is {
			return k(1)
		}
		return k(0)
	}
	switch op {
	case "+":
		z.Add(x, y)
	case "-":
		z.Sub(x, y)
	case "*":
		z.Mul(x, y)
	default:
		if b == 0 {
			return api.Zero
		}
		rest := new(big.Int).Mod(x, y) // at least 0
		if b < 0 && rest.Sign() != 0 {
			rest.Add(rest, y)
		}
		if z = rest; op == "div" {
			z = new(big.Int).Quo(x.Sub(x, rest), y)
		}
	}
	low := new(big.Int).And(z, new(big.Int).SetUint64(1<<64-1))
	return k(int64(low.Uint64()))
}

// apply calls a procedure of a site's module, and then k of what it tells.
func (r *trip) apply(v site, name string, args []int64, k func(int64) int) int {
	if v.deep == api.MaxCalls {
		return api.Deep
	}
	in := site{module: v.module, own: map[string]*int64{}, deep: v.deep + 1, back: k}
	for _, c := range r.trees[v.module].Procs {
		if c.Name != name {
			continue
		}
		for i, own := range append(slices.Clone(c.Params), c.Vars...) {
			in.own[own] = new(int64)
			if i < len(args) {
				*in.own[own] = args[i]
			}
		}
		return r.stmts(in, c.Body, func() int { return k(0) })
	}
	return api.Fault
}
