package opt

import (
	"marquetry/api"
	"marquetry/code"
)

// bare is an instruction that names nothing.
func bare(op int) api.Inst { return api.Inst{Op: op} }

// push puts a number.
func push(n int64) api.Inst { return api.Inst{Op: api.Push, A: n} }

// jump goes on at a place.
func jump(at int) api.Inst { return api.Inst{Op: api.Jump, A: int64(at)} }

// do does a mark of two.
func do(sign string) api.Inst {
	for i, s := range code.Marks {
		if s == sign {
			return api.Inst{Op: api.Do, A: int64(i)}
		}
	}
	return bare(api.Do)
}

// single is what a Neg or a Not comes to.
func single(op int, n int64) int64 {
	switch {
	case op == api.Neg:
		return -n
	case n == 0:
		return 1
	}
	return 0
}

// ends says whether a procedure ends with an instruction.
func ends(x api.Inst) bool { return x.Op == api.Leave || x.Op == api.Halt }

// goesTo says whether A of an instruction is another one's number.
func goesTo(x api.Inst) bool { return x.Op == api.Jump || x.Op == api.Else }

// divides says whether a Do may end in Zero.
func divides(x api.Inst) bool { return code.Marks[x.A] == "div" || code.Marks[x.A] == "mod" }

// goesOn says whether the next instruction is always done behind one (unless that ends in Fault or Stack).
func goesOn(x api.Inst) bool {
	switch x.Op {
	case api.Push, api.Pop, api.Load, api.Store, api.Put, api.Neg, api.Not:
		return true
	case api.Get:
		return x.B < 0
	case api.Do:
		return !divides(x)
	}
	return false
}
