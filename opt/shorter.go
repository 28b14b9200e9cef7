package opt

import (
	"marquetry/api"
	"marquetry/code"
	"marquetry/run"
)

// longest is of how many instructions shorter knows something.
const longest = 3

// shorter is what does the same as some instructions that stand together (next: the number of the one behind them), in no more of them, and with no more on the stack. What only a Fault or the stack's end tells apart is the same here; what may end in another way must end so.
func shorter(l []api.Inst, next int) ([]api.Inst, bool) {
	if len(l) == 2 {
		return two(l[0], l[1])
	}
	return three(l[0], l[1], l[2], next)
}

// by is what comes in the place of others.
func by(l ...api.Inst) ([]api.Inst, bool) { return l, true }

// two is shorter, of two.
func two(x, y api.Inst) ([]api.Inst, bool) {
	switch {
	case x.Op == api.Push:
		return behindPush(x.A, y)
	case x.Op == api.Neg:
		return behindNeg(y)
	case y.Op == api.Pop:
		return aheadOfPop(x)
	case y.Op == api.Not && x.Op == api.Do:
		return aheadOfNot(x)
	case x.Op == api.Load && y == (api.Inst{Op: api.Store, A: x.A}):
		return by()
	case x.Op == api.Get && x.B < 0 && y == (api.Inst{Op: api.Put, A: x.A}):
		return by()
	}
	return nil, false
}

// three is shorter, of three.
func three(x, y, z api.Inst, next int) ([]api.Inst, bool) {
	switch {
	case x.Op == api.Push && y.Op == api.Push && z.Op == api.Do:
		n, ok := run.Both(code.Marks[z.A], x.A, y.A)
		return []api.Inst{push(n)}, ok
	case x.Op == api.Not && y.Op == api.Not && (z.Op == api.Not || z.Op == api.Else):
		return by(z)
	case x.Op == api.Store && y == (api.Inst{Op: api.Load, A: x.A}) && ends(z):
		return by(z) // the local is gone then
	case y == (api.Inst{Op: api.Else, A: int64(next)}) && z.Op == api.Jump:
		return turned(x, z.A)
	}
	return nil, false
}

// behindPush is an instruction with a number that is known.
func behindPush(n int64, y api.Inst) ([]api.Inst, bool) {
	switch {
	case y.Op == api.Else && n == 0:
		return by(jump(int(y.A)))
	case y.Op == api.Else, y.Op == api.Pop:
		return by()
	case y.Op == api.Neg, y.Op == api.Not:
		return by(push(single(y.Op, n)))
	case y.Op == api.Do:
		return doKnown(code.Marks[y.A], n)
	}
	return nil, false
}

// doKnown is a mark of two with a number that is known at its right.
func doKnown(sign string, n int64) ([]api.Inst, bool) {
	switch {
	case n == 0 && (sign == "+" || sign == "-"), n == 1 && (sign == "*" || sign == "div"):
		return by()
	case n == -1 && (sign == "*" || sign == "div"):
		return by(bare(api.Neg))
	case n == 0 && sign == "=":
		return by(bare(api.Not))
	case n == 0 && sign == "#":
		return by(bare(api.Not), bare(api.Not)) // of these more is known
	}
	return nil, false
}

// behindNeg is an instruction with 0 less a number, which is 0 just if that is.
func behindNeg(y api.Inst) ([]api.Inst, bool) {
	switch {
	case y.Op == api.Neg:
		return by()
	case y.Op == api.Not, y.Op == api.Else, y.Op == api.Pop:
		return by(y)
	case y == do("+"):
		return by(do("-"))
	case y == do("-"):
		return by(do("+"))
	}
	return nil, false
}

// aheadOfPop is an instruction of which nobody asks what it puts.
func aheadOfPop(x api.Inst) ([]api.Inst, bool) {
	pop := bare(api.Pop)
	switch {
	case x.Op == api.Load, x.Op == api.Get && x.B < 0:
		return by()
	case x.Op == api.Not:
		return by(pop)
	case x.Op == api.Do && !divides(x):
		return by(pop, pop)
	}
	return nil, false
}

// aheadOfNot is a mark of two of which it is asked whether it comes to 0.
func aheadOfNot(x api.Inst) ([]api.Inst, bool) {
	switch code.Marks[x.A] {
	case "=":
		return by(do("#"))
	case "#", "-":
		return by(do("="))
	case "<":
		return by(do(">="))
	case "<=":
		return by(do(">"))
	case ">":
		return by(do("<="))
	case ">=":
		return by(do("<"))
	}
	return nil, false
}

// turned is an instruction with an Else behind it that leads past a Jump: an Else alone, if the instruction can do a Not, too.
func turned(x api.Inst, to int64) ([]api.Inst, bool) {
	able := x.Op == api.Not
	if x.Op == api.Do {
		_, able = aheadOfNot(x)
	}
	return []api.Inst{x, bare(api.Not), {Op: api.Else, A: to}}, able
}
