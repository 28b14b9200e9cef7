package code

import (
	"slices"

	"marquetry/api"
)

// writer lays an object's code behind what is there, and looks in that for what is named.
type writer struct {
	*api.Object
	own []string // parameters and own variables of the procedure in which statements stand
}

// add lays an instruction behind all others.
func (w *writer) add(x api.Inst) {
	if len(w.Code) == api.MaxCode {
		panic(api.ErrLimit)
	}
	w.Code = append(w.Code, x)
}

// bare lays an instruction that names nothing.
func (w *writer) bare(op int) { w.add(api.Inst{Op: op}) }

// push lays one that puts a number on the stack.
func (w *writer) push(n int64) { w.add(api.Inst{Op: api.Push, A: n}) }

// away lays a Jump or an Else to where nothing lies yet: its number, for land.
func (w *writer) away(op int) int {
	w.bare(op)
	return len(w.Code) - 1
}

// land lets one that away laid go on at what is laid next. (Something always is: all code ends with a Halt or a Leave.)
func (w *writer) land(from int) { w.Code[from].A = int64(len(w.Code)) }

// module lays what is done when a module is loaded, and then its procedures.
func (w *writer) module(m api.Module) {
	w.stmts(m.Body)
	w.bare(api.Halt)
	for _, c := range m.Procs {
		w.proc(c)
	}
}

// proc lays a procedure. Behind its last statement it tells 0, as one without a Return does.
func (w *writer) proc(c api.Proc) {
	w.own = slices.Concat(c.Params, c.Vars)
	w.Procs = append(w.Procs, api.Entry{At: len(w.Code), Args: len(c.Params), Locals: len(w.own)})
	w.stmts(c.Body)
	w.push(0)
	w.bare(api.Leave)
}

// caught tells what was thrown: what is too much. Nothing else is thrown on purpose; should anything else ever be, Compile still may not panic.
func caught(r any) error {
	if e, ok := r.(api.Errno); ok {
		return e
	}
	return api.ErrArg
}
