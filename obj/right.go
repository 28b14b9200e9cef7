package obj

import (
	"slices"

	"marquetry/api"
	"marquetry/code"
)

// How many there may be of what package api has no number for.
const (
	maxSyms  = api.MaxVars + api.MaxProcs
	maxNeed  = 4000 // bytes
	maxNames = 100  // of a Use
)

// all says whether there are at most so many, and each is right.
func all[T any](l []T, most int, right func(T) bool) bool {
	return len(l) <= most && !slices.ContainsFunc(l, func(x T) bool { return !right(x) })
}

// counts says whether something is the number of one of so many, from 0 on.
func counts(n int64, many int) bool { return n >= 0 && n < int64(many) }

// rightHead looks at all but procedures and code.
func rightHead(o *api.Object) bool {
	other := func(u api.Use) bool { return u.Name != o.Name && rightUse(u) }
	return Name(o.Name) && all(o.Syms, maxSyms, rightSym) && all(o.Uses, api.MaxImports, other) && all(o.Vars, api.MaxVars, rightVar)
}

// rightSym looks at what others see. No procedure is an array.
func rightSym(s api.Sym) bool {
	return Name(s.Name) && s.Args >= -1 && s.Args <= api.MaxVars && rightLen(s.Len) && (s.Args < 0 || s.Len == 0)
}

// rightLen looks at how long a variable is.
func rightLen(n int) bool { return n >= 0 && n <= api.MaxArray }

// rightUse looks at what is used of another object.
func rightUse(u api.Use) bool {
	return Name(u.Name) && len(u.Need) <= maxNeed && all(u.Names, maxNames, Name)
}

// rightVar looks at a variable. It stands nowhere in a text.
func rightVar(g api.Global) bool { return Name(g.Name) && g.At == 0 && rightLen(g.Len) }

// rightProcs looks at procedures, and at their names.
func rightProcs(o *api.Object) bool {
	right := func(e api.Entry) bool {
		return counts(int64(e.At), len(o.Code)) && e.Args >= 0 && e.Locals >= e.Args && e.Locals <= api.MaxVars
	}
	return all(o.Procs, api.MaxProcs, right) && len(o.Names) == len(o.Procs) && all(o.Names, api.MaxProcs, Name)
}

// rightCode looks at instructions. Nothing goes on behind the last one.
func rightCode(o *api.Object) bool {
	if len(o.Code) == 0 || !all(o.Code, api.MaxCode, func(x api.Inst) bool { return rightInst(o, x) }) {
		return false
	}
	last := o.Code[len(o.Code)-1].Op
	return last == api.Jump || last == api.Leave || last == api.Halt
}

// rightInst looks at an instruction: what it names is there, and it has no more than it needs.
func rightInst(o *api.Object, x api.Inst) bool {
	switch x.Op {
	case api.Get, api.GetAt:
		return reaches(o, x, len(o.Vars))
	case api.Invoke:
		return reaches(o, x, len(o.Procs))
	case api.Push:
		return x.B == 0
	}
	return x.B == 0 && counts(x.A, choices(o, x.Op))
}

// reaches says whether what an instruction reaches for is there: one of so many of the object's own, or a name of a Use.
func reaches(o *api.Object, x api.Inst, own int) bool {
	if x.B == -1 {
		return counts(x.A, own)
	}
	return counts(x.B, len(o.Uses)) && counts(x.A, len(o.Uses[x.B].Names))
}

// choices is how many numbers, from 0 on, A of an instruction of that Op may be: where it names nothing, 0 alone; where there is no such Op, none.
func choices(o *api.Object, op int) int {
	switch op {
	case api.Load, api.Store:
		return api.MaxVars
	case api.Put, api.PutAt:
		return len(o.Vars)
	case api.Do:
		return len(code.Marks)
	case api.Jump, api.Else:
		return len(o.Code)
	case api.Pop, api.Neg, api.Not, api.Leave, api.Say, api.Halt:
		return 1
	}
	return 0
}
