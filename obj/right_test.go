package obj_test

import (
	"fmt"
	"math"
	"slices"
	"strings"
	"testing"

	"marquetry/api"
	"marquetry/obj"
)

// 6.1: 1 to MaxName letters and digits, a letter first.
func TestName(t *testing.T) {
	for _, s := range []string{"a", "z", "m", "a0", "z9", "abcdefghij", "a123456789", "zzzzzzzzzz", "module", "var", "int"} {
		if !obj.Name(s) {
			t.Errorf("%q is no Name", s)
		}
	}
	for _, s := range []string{"", "0", "9a", "abcdefghijk", "a1234567890", "A", "aB", "a b", " a", "a ", "a.b", "a_b", "a-", "é", "aé", "a\x00", "\x00", "a\n", strings.Repeat("a", 100_000)} {
		if obj.Name(s) {
			t.Errorf("%q is a Name", s)
		}
	}
	for i := range 256 {
		c := string([]byte{byte(i)})
		letter := strings.Contains("abcdefghijklmnopqrstuvwxyz", c)
		digit := strings.Contains("0123456789", c)
		if obj.Name(c) != letter || obj.Name("a"+c) != (letter || digit) || obj.Name("abc"+c+"d") != (letter || digit) {
			t.Errorf("%q: %v first, %v behind", c, obj.Name(c), obj.Name("a"+c))
		}
	}
}

// 6.1: objects that are right, to their bounds.
func TestRight(t *testing.T) {
	if obj.Right(nil) {
		t.Error("nil is right")
	}
	writes(t, whole())
	writes(t, &api.Object{Name: "m", Code: []api.Inst{{Op: api.Halt}}})
	writes(t, &api.Object{Name: "m", Syms: []api.Sym{}, Uses: []api.Use{}, Vars: []api.Global{}, Procs: []api.Entry{}, Names: []string{}, Code: []api.Inst{{Op: api.Leave}}})
	writes(t, &api.Object{Name: "m", Code: []api.Inst{{Op: api.Jump}}})
	for what, change := range map[string]func(o *api.Object){
		"long names":         func(o *api.Object) { o.Name, o.Names[1], o.Uses[0].Name = "abcdefghij", "a123456789", "abcdefghik" },
		"20 Syms":            func(o *api.Object) { o.Syms = slices.Repeat(o.Syms[:1], 20) },
		"a Sym's most Args":  func(o *api.Object) { o.Syms[0].Args = api.MaxVars },
		"a Sym's least Args": func(o *api.Object) { o.Syms[0].Args = 0 },
		"a Sym's most Len":   func(o *api.Object) { o.Syms[1].Len = api.MaxArray },
		"6 Uses":             func(o *api.Object) { o.Uses = append(o.Uses, slices.Repeat(o.Uses[:1], 4)...) },
		"a long Need":        func(o *api.Object) { o.Uses[0].Need = strings.Repeat("\xff", 4000) },
		"any Need":           func(o *api.Object) { o.Uses[0].Need = "\x00 none!" },
		"100 Names":          func(o *api.Object) { o.Uses[0].Names = slices.Repeat([]string{"f"}, 100) },
		"Names of words":     func(o *api.Object) { o.Uses[0].Names[0], o.Vars[0].Name = "begin", "end" },
		"10 Vars":            func(o *api.Object) { o.Vars = append(o.Vars, slices.Repeat(o.Vars[:1], 7)...) },
		"a Var's most Len":   func(o *api.Object) { o.Vars[1].Len = api.MaxArray },
		"10 Procs":           func(o *api.Object) { o.Procs, o.Names = slices.Repeat(o.Procs, 5), slices.Repeat(o.Names, 5) },
		"no Procs":           func(o *api.Object) { o.Procs, o.Names, o.Code = nil, nil, o.Code[:1] },
		"a Proc at the last": func(o *api.Object) { o.Procs[0].At = len(o.Code) - 1 },
		"a Proc of 10":       func(o *api.Object) { o.Procs[0].Args, o.Procs[0].Locals = api.MaxVars, api.MaxVars },
		"MaxCode":            func(o *api.Object) { o.Code = slices.Repeat(o.Code[20:], api.MaxCode) },
		"as its import's":    func(o *api.Object) { o.Syms[0].Name, o.Vars[0].Name, o.Names[0] = "a", "m", "b" },
	} {
		o := whole()
		change(o)
		if !obj.Right(o) {
			t.Errorf("%s: %+v is not right", what, o)
			continue
		}
		writes(t, o)
	}
}

// 6.1: whatever is beyond a bound is not right, not written, and not read.
func TestNotRight(t *testing.T) {
	refuses(t, "nil", nil)
	refuses(t, "nothing", &api.Object{})
	for what, change := range map[string]func(o *api.Object){
		"21 Syms":            func(o *api.Object) { o.Syms = slices.Repeat(o.Syms[:1], 21) },
		"a Sym's Args -2":    func(o *api.Object) { o.Syms[1].Args = -2 },
		"a Sym's Args 11":    func(o *api.Object) { o.Syms[0].Args = 11 },
		"a Sym's Args least": func(o *api.Object) { o.Syms[1].Args = math.MinInt },
		"a Sym's Len -1":     func(o *api.Object) { o.Syms[1].Len = -1 },
		"a Sym's Len 31":     func(o *api.Object) { o.Syms[1].Len = 31 },
		"a proc's Len":       func(o *api.Object) { o.Syms[0].Len = 1 },
		"a proc's Len, 0":    func(o *api.Object) { o.Syms[0].Args, o.Syms[0].Len = 0, 3 },
		"7 Uses":             func(o *api.Object) { o.Uses = append(o.Uses, slices.Repeat(o.Uses[:1], 5)...) },
		"of itself":          func(o *api.Object) { o.Uses[1].Name = "m" },
		"a longer Need":      func(o *api.Object) { o.Uses[0].Need = strings.Repeat("a", 4001) },
		"101 Names":          func(o *api.Object) { o.Uses[1].Names = slices.Repeat([]string{"f"}, 101) },
		"11 Vars":            func(o *api.Object) { o.Vars = append(o.Vars, slices.Repeat(o.Vars[:1], 8)...) },
		"a Var's At":         func(o *api.Object) { o.Vars[0].At = 1 },
		"a Var's At below":   func(o *api.Object) { o.Vars[2].At = -1 },
		"a Var's Len -1":     func(o *api.Object) { o.Vars[0].Len = -1 },
		"a Var's Len 31":     func(o *api.Object) { o.Vars[2].Len = 31 },
		"11 Procs":           func(o *api.Object) { o.Procs, o.Names = slices.Repeat(o.Procs[1:], 11), slices.Repeat(o.Names[1:], 11) },
		"a Name too few":     func(o *api.Object) { o.Names = o.Names[:1] },
		"a Name too many":    func(o *api.Object) { o.Names = append(o.Names, "h") },
		"a Proc too many":    func(o *api.Object) { o.Procs = append(o.Procs, api.Entry{}) },
		"a Proc's At -1":     func(o *api.Object) { o.Procs[0].At = -1 },
		"a Proc behind":      func(o *api.Object) { o.Procs[1].At = len(o.Code) },
		"a Proc's Args -1":   func(o *api.Object) { o.Procs[1].Args = -1 },
		"less Locals":        func(o *api.Object) { o.Procs[0].Locals = 1 },
		"Locals -1":          func(o *api.Object) { o.Procs[1].Args, o.Procs[1].Locals = -1, -1 },
		"11 Locals":          func(o *api.Object) { o.Procs[0].Locals = 11 },
		"no code":            func(o *api.Object) { o.Code, o.Procs, o.Names = nil, nil, nil },
		"more than MaxCode":  func(o *api.Object) { o.Code = slices.Repeat(o.Code[20:], api.MaxCode+1) },
	} {
		o := whole()
		change(o)
		refuses(t, what, o)
	}
	for _, s := range []string{"", "A", "1", "abcdefghijk", "a b", "é", "a\n"} {
		for where, change := range []func(o *api.Object){
			func(o *api.Object) { o.Name = s },
			func(o *api.Object) { o.Syms[2].Name = s },
			func(o *api.Object) { o.Uses[1].Name = s },
			func(o *api.Object) { o.Uses[0].Names[1] = s },
			func(o *api.Object) { o.Vars[1].Name = s },
			func(o *api.Object) { o.Names[1] = s },
		} {
			o := whole()
			change(o)
			refuses(t, fmt.Sprintf("%q as name %d", s, where), o)
		}
	}
}

// fits says whether an instruction may stand in whole, as 6.1 tells it op by op: for each, what B may be, and of that how many numbers A may be, from 0 on (below 0: any).
func fits(x api.Inst) bool {
	none := map[int64]int{0: 1}
	many, there := map[int]map[int64]int{
		api.Push: {0: -1}, api.Pop: none, api.Load: {0: 10}, api.Store: {0: 10}, api.Get: {-1: 3, 0: 2, 1: 0}, api.Put: {0: 3}, api.GetAt: {-1: 3, 0: 2, 1: 0}, api.PutAt: {0: 3},
		api.Do: {0: 11}, api.Neg: none, api.Not: none, api.Jump: {0: 21}, api.Else: {0: 21}, api.Invoke: {-1: 2, 0: 2, 1: 0}, api.Leave: none, api.Say: none, api.Halt: none,
	}[x.Op][x.B]
	return there && (many < 0 || x.A >= 0 && x.A < int64(many))
}

// 6.1: each instruction, with whatever it names.
func TestInstructions(t *testing.T) {
	right := 0
	for op := -2; op < 25; op++ {
		for _, b := range []int64{math.MinInt64, -2, -1, 0, 1, 2, 3, 1 << 32, math.MaxInt64} {
			for _, a := range []int64{math.MinInt64, -1 << 32, -2, -1, 0, 1, 2, 3, 4, 9, 10, 11, 19, 20, 21, 22, 4000, 1 << 32, math.MaxInt64} {
				o := whole()
				o.Code[4] = api.Inst{Op: op, A: a, B: b}
				if fits(o.Code[4]) {
					right++
					writes(t, o)
				} else {
					refuses(t, fmt.Sprint(o.Code[4]), o)
				}
			}
		}
	}
	if right < 60 {
		t.Errorf("only %d were right", right)
	}
}

// 6.1: the last one is Jump, Leave or Halt; any other may stand ahead of it.
func TestLast(t *testing.T) {
	for i, x := range whole().Code {
		o := whole()
		o.Code = append(o.Code, x)
		if x.Op == api.Jump || x.Op == api.Leave || x.Op == api.Halt {
			writes(t, o)
		} else {
			refuses(t, fmt.Sprint("the last is ", i, ": ", x), o)
		}
		o.Code = append(o.Code, api.Inst{Op: api.Jump, A: int64(len(o.Code))})
		writes(t, o)
	}
}
