package code

import (
	"slices"

	"marquetry/api"
)

// stmts lays statements.
func (w *writer) stmts(l []api.Stmt) {
	for i := range l {
		w.stmt(&l[i])
	}
}

// stmt lays a statement. It leaves nothing on the stack.
func (w *writer) stmt(s *api.Stmt) {
	switch s.Code {
	case api.Set:
		w.set(s)
	case api.If:
		w.branch(s)
	case api.While:
		w.loop(s)
	case api.Return:
		w.telling(s, api.Leave)
	case api.Write:
		w.telling(s, api.Say)
	case api.Call:
		w.telling(s, api.Pop) // what the procedure tells is not asked for
	}
}

// telling lays a statement that does one thing with its value.
func (w *writer) telling(s *api.Stmt, op int) {
	w.expr(s.Value)
	w.bare(op)
}

// set lays a Set. Those of a procedure hide those of its module.
func (w *writer) set(s *api.Stmt) {
	op := api.Put
	if s.Index != nil {
		op = api.PutAt
		w.expr(s.Index)
	}
	w.expr(s.Value)
	if i := slices.Index(w.own, s.Name); i >= 0 {
		w.add(api.Inst{Op: api.Store, A: int64(i)})
		return
	}
	w.add(api.Inst{Op: op, A: w.variable(s.Name)})
}

// branch lays an If.
func (w *writer) branch(s *api.Stmt) {
	w.expr(s.Value)
	no := w.away(api.Else)
	w.stmts(s.Then)
	if len(s.Else) == 0 {
		w.land(no)
		return
	}
	end := w.away(api.Jump)
	w.land(no)
	w.stmts(s.Else)
	w.land(end)
}

// loop lays a While.
func (w *writer) loop(s *api.Stmt) {
	again := int64(len(w.Code))
	w.expr(s.Value)
	end := w.away(api.Else)
	w.stmts(s.Then)
	w.add(api.Inst{Op: api.Jump, A: again})
	w.land(end)
}
