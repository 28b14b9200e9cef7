package vm_test

import (
	"fmt"
	"math"
	"strings"
	"testing"

	"marquetry/api"
	"marquetry/code"
	"marquetry/run"
)

// goes asks how code ends, when it is loaded.
func goes(t *testing.T, text, want string) {
	t.Helper()
	loads(t, machine(t), object(t, "m", text), much, want)
}

// 8.2: what each instruction does, where nothing is missing.
func TestInsts(t *testing.T) {
	for text, want := range map[string]string{
		"halt":                                        "done",
		"push 5; say; push -6; say; halt":             "done 5 -6",
		"push 1; push 2; push 3; halt":                "done",
		"push 5; push 6; pop; say; halt":              "done 5",
		"get x; say; get y; say; get t; halt":         "done 0 0",
		"push 7; put y; get x; say; get y; say; halt": "done 0 7",
		"push 4; put t; get t; say; push 0; getat t; say; push 1; getat t; say; halt":              "done 4 4 0", // an array's first number
		"push 2; push 9; putat t; push 2; getat t; say; get t; say; halt":                          "done 9 0",
		"push 0; push 5; putat x; get x; say; push 0; getat x; say; push 0; getat u; say; halt":    "done 5 5 0",
		"push 5; push 0; putat t; halt":                                                            "bounds", // the last one is n
		"push 3; neg; say; push 0; neg; say; push -9223372036854775808; neg; say; halt":            "done -3 0 -9223372036854775808",
		"push 3; not; say; push 0; not; say; push -1; not; say; halt":                              "done 0 1 0",
		"jump c; a: push 1; say; halt; b: push 2; say; jump a; c: push 3; say; jump b":             "done 3 2 1",
		"push 0; else a; push 1; say; a: push 5; else b; push 2; say; b: halt":                     "done 2",
		"push 9; push -1; else a; say; halt; a: halt":                                              "done 9",
		"push 8; push 9; push 0; else a; halt; a: say; say; halt":                                  "done 9 8",
		"push 3; put x; a: get x; else b; get x; say; get x; push 1; do -; put x; jump a; b: halt": "done 3 2 1",
		"push 4; leave":                                                      "done",
		"push 3; say; push 4; push 5; leave":                                 "done 3",
		"push 3; say; halt; a: push 4; say; jump a":                          "done 3",
		"invoke g; say; halt; g: push 7; say; push 8; leave":                 "done 7 8",
		"push 5; invoke g; say; say; halt; g: push 1; push 2; push 3; leave": "done 3 5", // all else is gone
		"push 1; push 2; push 3; invoke h; say; halt; h: load 0; say; load 1; say; load 2; say; push 4; leave":              "done 1 2 3 4",
		"push 6; invoke f; halt; f: load 1; say; load 0; say; push 7; store 1; load 1; say; push 8; store 0; load 0; leave": "done 0 6 7",
		"push 1; invoke f; push 2; invoke f; halt; f: load 1; say; load 0; store 1; load 1; leave":                          "done 0 0", // others are 0 each time
		"push 1; invoke f; say; halt; f: load 0; store 1; invoke g; pop; load 1; leave; g: push 9; leave":                   "done 1",
		"invoke g; push 1; say; halt; g: push 2; say; halt":                                                                 "done 2",
	} {
		goes(t, text, want)
	}
}

// 8.2: Do, of all marks; Example 4.
func TestDo(t *testing.T) {
	numbers := []int64{0, 1, -1, 2, -2, 7, -7, math.MaxInt64, math.MinInt64}
	for _, mark := range code.Marks {
		for _, a := range numbers {
			for _, b := range numbers {
				n, ok := run.Both(mark, a, b)
				want := fmt.Sprint("done ", n)
				if !ok {
					want = "zero"
				}
				goes(t, fmt.Sprintf("push %d; push %d; do %s; say; halt", a, b, mark), want)
			}
		}
	}
	goes(t, "push -7; push 2; do div; say; push -7; push 2; do mod; say; push 7; push -2; do div; say; push 7; push -2; do mod; say; halt", "done -4 1 -4 -1")
}

// 8.2: Fault: the procedure put none there, or took all; what lies there is another one's.
func TestFault(t *testing.T) {
	for _, text := range []string{
		"pop; halt", "put x; halt", "putat t; halt", "push 1; putat t; halt", "getat t; halt", "do +; halt", "push 1; do +; halt", "push 0; do div; halt", "neg; halt", "not; halt", "else a; a: halt", "leave", "say; halt",
		"push 1; pop; pop; halt", "push 1; push 2; do +; pop; pop; halt", "push 1; put x; say; halt", "push 0; push 0; putat t; pop; halt", "push 1; else a; a: neg; halt", "invoke f; halt; f: push 1; leave", "push 1; push 2; invoke h; halt; h: push 1; leave",
		"load 0; halt", "push 1; store 0; halt", "load 9; halt", "store 9; halt",
		"invoke g; halt; g: load 0; leave", "invoke g; halt; g: push 1; store 0; push 1; leave", "push 1; invoke f; halt; f: load 2; leave", "push 1; push 1; push 1; invoke h; halt; h: push 1; store 3; push 1; leave",
		"push 5; invoke g; halt; g: pop; push 1; leave", "push 5; invoke g; halt; g: leave", "push 5; invoke g; halt; g: push 1; do +; leave", "push 5; push 6; invoke f; halt; f: say; push 1; leave", "push 5; push 6; invoke g; halt; g: invoke f; leave; f: push 1; leave",
		"invoke g; pop; pop; halt; g: push 1; push 2; leave",
	} {
		goes(t, text, "fault")
	}
}

// 8.2: then nothing more of the instruction is done, and what was done stays so.
func TestFaultLeavesAll(t *testing.T) {
	m := machine(t)
	loads(t, m, object(t, "m", "push 4; put x; push 5; say; push 1; putat t; push 6; put x; halt"), much, "fault 5")
	has(t, m, "m", "x", "4")
	has(t, m, "m", "t", "0 0 0")
	loads(t, m, object(t, "n", "push 3; push 1; putat t; push 6; put x; halt"), much, "bounds")
	has(t, m, "n", "t", "0 0 0")
	has(t, m, "n", "x", "0")
}

// 8.2: Bounds, Zero.
func TestBounds(t *testing.T) {
	for _, k := range []string{"-1", "3", "4", "9223372036854775807", "-9223372036854775808"} {
		goes(t, "push "+k+"; getat t; halt", "bounds")
		goes(t, "push "+k+"; push 1; putat t; halt", "bounds")
		goes(t, "push "+k+"; getat x; halt", "bounds")
		goes(t, "push "+k+"; push 1; putat x; halt", "bounds")
		goes(t, "push "+k+"; getat u; halt", "bounds")
	}
	for k := range 3 {
		goes(t, fmt.Sprintf("push %d; push 7; putat t; push %d; getat t; say; halt", k, k), "done 7")
	}
	goes(t, "push 1; getat u; halt", "bounds")
	goes(t, "push 1; push 1; putat x; halt", "bounds")
	goes(t, "push 4; say; push 1; push 0; do div; halt", "zero 4")
	goes(t, "push 4; say; push 0; push 0; do mod; halt", "zero 4")
}

// 8.2: Full: MaxOut were told, and there is one more.
func TestFull(t *testing.T) {
	out := strings.TrimSpace(strings.Repeat("4 ", api.MaxOut))
	again := strings.Repeat("push 4; say; ", api.MaxOut)
	goes(t, again+"halt", "done "+out)
	goes(t, again+"push 5; say; halt", "full "+out)
	goes(t, again+"say; halt", "fault "+out) // what is TAKEN comes first
	goes(t, "a: push 4; say; jump a", "full "+out)
}

// up puts MaxStack numbers. (To count them it needs room for two.)
var up = fmt.Sprintf("push %d; put x; a: get x; else b; get x; push 1; do -; put x; push 4; jump a; b: push 4; push 4; ", api.MaxStack-2)

// 8.2: Stack: there are MaxStack, and one more is PUT.
func TestStack(t *testing.T) {
	for text, want := range map[string]string{
		"halt": "done", "push 5; halt": "stack", "get y; halt": "stack", "say; get y; say; halt": "done 4 0", "invoke g; halt; g: push 1; leave": "stack", "pop; invoke g; say; halt; g: push 1; leave": "done 1", "pop; invoke g; halt; g: push 1; push 2; leave": "stack",
		"neg; say; halt": "done -4", "not; say; halt": "done 0", "do +; say; halt": "done 8", "do -; getat t; say; halt": "done 0", "leave": "done",
		"invoke f; say; halt; f: load 0; leave": "done 4", "invoke f; halt; f: load 0; load 0; leave": "stack", "invoke f; push 1; halt; f: load 0; leave": "stack", "load 0; halt": "fault",
	} {
		loads(t, machine(t), object(t, "m", up+text), 10*much, want)
	}
	loads(t, machine(t), object(t, "m", "a: push 1; jump a"), 2*api.MaxStack, "fuel")
	loads(t, machine(t), object(t, "m", "a: push 1; jump a"), 2*api.MaxStack+1, "stack")
}

// down is a procedure f that calls itself as often as it is told: that.
const down = "f: load 0; else b; load 0; push 1; do -; invoke f; push 1; do +; leave; b: push 0; leave"

// 8.2: Deep: MaxCalls Procs go already. What is done when an object is loaded is none, that of Call is one.
func TestDeep(t *testing.T) {
	m := machine(t)
	loads(t, m, object(t, "a", "push 29; invoke f; say; halt; "+down), much, "done 29")
	loads(t, m, object(t, "b", "push 30; invoke f; say; halt; "+down), much, "deep")
	calls(t, m, "a", "f", []int64{29}, much, "done", 29)
	calls(t, m, "a", "f", []int64{30}, much, "deep", 0)
	calls(t, m, "a", "f", []int64{-1}, much, "deep", 0)
	// It comes ahead of what is TAKEN: none of these finds a parameter.
	goes(t, "push 30; invoke f; halt; f: load 0; else b; load 0; push 1; do -; invoke f; leave; b: invoke h; leave; h: push 1; leave", "deep")
	goes(t, "push 29; invoke f; halt; f: load 0; else b; load 0; push 1; do -; invoke f; leave; b: invoke h; leave; h: push 1; leave", "deep")
	goes(t, "push 28; invoke f; halt; f: load 0; else b; load 0; push 1; do -; invoke f; leave; b: invoke h; leave; h: push 1; leave", "fault")
	// Those that have ended go no more.
	goes(t, "push 100; put x; a: get x; else b; get x; push 1; do -; put x; push 29; invoke f; pop; jump a; b: halt; "+down, "done")
}

// 8.2: Fuel: as many were done as fuel tells.
func TestFuel(t *testing.T) {
	const text = "push 4; put x; push 1; say; invoke g; halt; g: push 2; say; push 3; leave" // of which 10 are done
	for _, fuel := range []int{math.MinInt, -1, 0, 1, 2, 3, 4, 5, 6, 7, 8, 9, 10, 11, math.MaxInt} {
		m, want := machine(t), "fuel"
		switch {
		case fuel >= 10:
			want = "done 1 2"
		case fuel >= 7:
			want = "fuel 1 2"
		case fuel >= 4:
			want = "fuel 1"
		}
		loads(t, m, object(t, "m", text), fuel, want)
		has(t, m, "m", "x", map[bool]string{true: "4", false: "0"}[fuel >= 2])
	}
	for text, many := range map[string]int{"push 1; push 0; do div; halt": 3, "push 3; getat t; halt": 2, "leave": 1, "push 1; leave": 2, "invoke g; halt; g: invoke g; leave": 31} {
		m := machine(t)
		loads(t, m, object(t, "a", text), many-1, "fuel")
		if e, err := m.Load(object(t, "b", text), many); err != nil || e.Way == api.Fuel {
			t.Errorf("%s: %s, %v by %d", text, shown(e), err, many)
		}
	}
	m := machine(t, object(t, "m", "halt; f: load 0; leave"))
	calls(t, m, "m", "f", []int64{5}, 2, "done", 5)
	calls(t, m, "m", "f", []int64{5}, 1, "fuel", 0)
	calls(t, m, "m", "f", []int64{5}, 0, "fuel", 0)
	calls(t, m, "m", "f", []int64{5}, -3, "fuel", 0)
}
