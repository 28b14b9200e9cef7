package run

import (
	"marquetry/api"
)

// scope is where statements stand: in which module, and in a procedure of which own variables (in a module's Body there are none).
type scope struct {
	*going
	in  *loaded
	own map[string]int64
}

// body does statements to their end, or until a Return among them tells something: that, or 0.
func (s *scope) body(l []api.Stmt) (n int64) {
	defer func() {
		r := recover()
		if t, ok := r.(told); ok {
			n = int64(t)
		} else if r != nil {
			panic(r) // it ends those that wait, too
		}
	}()
	s.stmts(l)
	return 0
}

// stmts does statements.
func (s *scope) stmts(l []api.Stmt) {
	for i := range l {
		s.step()
		s.stmt(&l[i])
	}
}

// stmt does a statement, behind its step.
func (s *scope) stmt(x *api.Stmt) {
	switch x.Code {
	case api.Set:
		s.set(x)
	case api.If:
		if s.value(x.Value) != 0 {
			s.stmts(x.Then)
		} else {
			s.stmts(x.Else)
		}
	case api.While:
		for s.value(x.Value) != 0 {
			s.stmts(x.Then)
			s.step()
		}
	case api.Return:
		panic(told(s.value(x.Value)))
	case api.Write:
		s.tell(s.value(x.Value))
	case api.Call:
		s.value(x.Value)
	}
}

// set sets a variable, or a number of an array: whether there is such a one is asked last.
func (s *scope) set(x *api.Stmt) {
	k := int64(0)
	if x.Index != nil {
		k = s.value(x.Index)
	}
	n := s.value(x.Value)
	if _, own := s.own[x.Name]; own {
		s.own[x.Name] = n
		return
	}
	l := s.in.vars[x.Name]
	l[within(l, k)] = n
}
