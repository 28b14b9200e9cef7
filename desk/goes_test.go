package desk_test

import (
	"fmt"
	"sort"
	"strings"
	"testing"

	"marquetry/api"
	"marquetry/shop"
	"marquetry/vm"
)

// 11.1: `load`: the Way, and what was told.
func TestLoad(t *testing.T) {
	for body, want := range map[string]string{
		"":         "load 1",
		"write 1;": "load 1 1",
		"write 0; write -3; write 9223372036854775807; write -9223372036854775807 - 1;": "load 1 0 -3 9223372036854775807 -9223372036854775808",
		"write 4; return 5; write 6;":          "load 1 4",
		"write 1; write 2 div x; write 3;":     "load 2 1",
		"write 1; write t[3]; write 3;":        "load 3 1",
		"t[-1] := 1;":                          "load 3",
		"f();":                                 "load 4",
		"while 1 do end;":                      "load 5",
		"write 8; while 1 do x := x + 1; end;": "load 5 8",
		"while 1 do write 2; end;":             "load 6" + strings.Repeat(" 2", api.MaxOut),
	} {
		first := []string{"put module a; var x: int; var t: array 3; proc f(); begin f(); end; begin " + body + " end.", "build"}
		behind(t, first, "load a", want)
		// It is there, however that ended.
		behind(t, append(first, "load a"), "load a", "error 9")
	}
}

// 11.1: `load`: Object's error, then Load's.
func TestLoadErrors(t *testing.T) {
	tells(t,
		"load a", "error 7",
		putA, "put a", putB, "put b",
		"load a", "error 7",
		"build", "build a b",
		"load zz", "error 7",
		"load b", "error 8",
		"get b x", "error 7",
		"load a", "load 1",
		"load a", "error 9",
		"put module a; var x*: array 3; var t*: array 3; proc f*(p); begin end; begin end.", "put a",
		"put module b; import a; begin write a.x[1]; end.", "put b",
		"build", "build a b",
		"load b", "error 6",
		"load a", "error 9",
		putA, "put a", putB, "put b", "build", "build a b",
		"load b", "load 1 1 -1",
		"drop b", "drop", "build", "build",
		"load b", "error 7",
		"get b x", "get 1")
}

// 11.1: `load`: ErrFull: what is dropped stays loaded.
func TestLoadFull(t *testing.T) {
	var lines []string
	for i := range api.MaxModules {
		name := fmt.Sprint("m", i)
		lines = append(lines, "put module "+name+"; begin end.", "put "+name, "build", "build "+name, "load "+name, "load 1", "drop "+name, "drop")
	}
	tells(t, append(lines,
		"put module n; begin end.", "put n", "build", "build n", "load n", "error 12",
		"put module m3; begin end.", "put m3", "build", "build m3", "load m3", "error 9", "swap m3", "swap")...)
}

// 11.1: `swap`: the word; what is there stays, and is called from now on.
func TestSwap(t *testing.T) {
	tells(t,
		putA, "put a", putB, "put b", "build", "build a b", "load a", "load 1", "load b", "load 1 1 -1",
		"call a f 10", "call 12 1",
		"swap a", "swap",
		"call a f 10", "call 13 1", "get a own", "get 3",
		"put module a; var own: int; var x*: int; var t*: array 3; var new: int; proc f*(p); begin own := own + 10; new := p; return own - p; end; begin x := 1; write 9; end.", "put a",
		"swap a", "swap", "call a f 10", "call 14 1",
		"build", "build a",
		"call a f 10", "call 15 1",
		"swap a", "swap",
		"get a own", "get 5", "get a x", "get 5", "get a t", "get 0 -6 0", "get a new", "get 0",
		"call a f 2", "call 13 1",
		"get a own", "get 15", "get a new", "get 2")
}

// 11.1: `swap`: Object's error, then Swap's.
func TestSwapErrors(t *testing.T) {
	tells(t,
		"swap a", "error 7",
		putA, "put a", putB, "put b",
		"swap a", "error 7",
		"build", "build a b",
		"swap a", "error 7",
		"load a", "load 1",
		"swap b", "error 7",
		"load b", "load 1 1 -1",
		"swap b", "swap",
		// b would use of a what is there no more.
		"put module a; var x*: int; begin end.", "put a", "put module b; begin end.", "put b",
		"build", "build a b",
		"swap a", "error 6",
		"call a f 0", "call 2 1",
		"swap b", "swap",
		"swap a", "swap",
		"call a f 0", "error 7",
		"get b x", "error 7",
		// What a uses is not there.
		"put module c; var y*: int; begin end.", "put c", "put module a; import c; begin write c.y; end.", "put a",
		"build", "build c a",
		"swap a", "error 8",
		"load c", "load 1",
		"swap a", "swap",
		// What a uses is not so there.
		"put module c; var y*: array 2; begin end.", "put c", "put module a; import c; begin write c.y[1]; end.", "put a",
		"build", "build c a",
		"swap a", "error 6",
		"swap c", "error 6",
		// They would lead to each other.
		"put module a; var z*: int; begin end.", "put a", "put module c; import a; begin write a.z; end.", "put c",
		"build", "build a c",
		"swap c", "error 6",
		"put module a; begin end.", "put a", "put module c; import a; var y*: int; begin end.", "put c",
		"build", "build a c",
		"swap c", "error 11",
		"swap a", "swap",
		"swap c", "swap")
}

// 11.1: `call`: what it told, the Way, and what was told.
func TestCall(t *testing.T) {
	first := []string{"put module a; var x: int; var t: array 3; proc n*(); begin end; proc add*(p, q); begin write p; write q; return p + q; end; proc over*(p, q); begin write p; return p div q; end; proc at*(p); begin t[p] := p; return t[p]; end; " +
		"proc deep*(p); begin return deep(p + 1); end; proc long*(p); begin while p do x := x + 1; end; return 7; end; proc much*(p); begin while p do write p; p := p - 1; end; return 5; end; proc own(p); begin return p; end; begin write 1; end.", "build", "load a"}
	for line, want := range map[string]string{
		"call a n":                              "call 0 1",
		"call a add 3 4":                        "call 7 1 3 4",
		"call a add -3  -4":                     "call -7 1 -3 -4",
		"call a add 9223372036854775807 1":      "call -9223372036854775808 1 9223372036854775807 1",
		"call a over 7 2":                       "call 3 1 7",
		"call a over -7 2":                      "call -4 1 -7",
		"call a over 7 0":                       "call 0 2 7",
		"call a at 2":                           "call 2 1",
		"call a at 3":                           "call 0 3",
		"call a at -1":                          "call 0 3",
		"call a deep 1":                         "call 0 4",
		"call a long 0":                         "call 7 1",
		"call a long 1":                         "call 0 5",
		"call a much 3":                         "call 5 1 3 2 1",
		"call a much 200":                       "call 5 1" + down(200, 1),
		"call a much 201":                       "call 0 6" + down(201, 2),
		"call a":                                "error 3",
		"call a n 1":                            "error 2",
		"call a add 1":                          "error 2",
		"call a add 1 2 3":                      "error 2",
		"call a own 1":                          "error 7",
		"call a x":                              "error 7",
		"call a t":                              "error 7",
		"call a zz":                             "error 7",
		"call a N":                              "error 7",
		"call b n":                              "error 7",
		"call b n 1 2 3":                        "error 7",
		"call 1 2 3":                            "error 7",
		"call a add 1 zz":                       "error 3",
		"call a n" + strings.Repeat(" 1", 5000): "error 2",
	} {
		behind(t, first, line, want)
	}
	// What is built, and not loaded, is not called; what was done stays.
	tells(t, first[0], "put a", first[1], "build a", "call a n", "error 7", first[2], "load 1 1",
		"call a at 1", "call 1 1", "get a t", "get 0 1 0", "call a long 1", "call 0 5", "call a at 2", "call 2 1", "get a t", "get 0 1 2",
		"call a over 1 0", "call 0 2 1", "call a add 1 1", "call 2 1 1 1")
}

// down are numbers from the first one down to the last one, a blank ahead of each.
func down(first, last int) string {
	s := ""
	for n := first; n >= last; n-- {
		s += fmt.Sprint(" ", n)
	}
	return s
}

// 11.1: `get`: one number, or as many as the array has; what others do not see, too.
func TestGet(t *testing.T) {
	tells(t,
		"get a x", "error 7",
		putA, "put a", "build", "build a",
		"get a x", "error 7",
		"load a", "load 1",
		"get a x", "get 5", "get a t", "get 0 -6 0", "get a own", "get 0",
		"get a f", "error 7", "get a g", "error 7", "get a p", "error 7", "get a zz", "error 7", "get b x", "error 7", "get A x", "error 7", "get a X", "error 7", "get x a", "error 7",
		"call a f 1", "call 2 1",
		"get a own", "get 1",
		"put module b; var u: array 1; var v: array 30; begin v[29] := -9223372036854775807 - 1; u[0] := 1; end.", "put b", "build", "build b", "load b", "load 1",
		"get b u", "get 1", "get b v", "get"+strings.Repeat(" 0", 29)+" -9223372036854775808",
		"drop a", "drop", "build", "build",
		"get a x", "get 5")
}

// 11.1: lines do at most 1000000 instructions, each of them.
func TestFuel(t *testing.T) {
	// Of any code: no round goes without an instruction, and some ten are enough.
	first := []string{"put module a; var x: int; proc f*(n); var i; begin while i < n do i := i + 1; end; return i; end; begin end.", "build", "load a"}
	behind(t, first, "call a f 20000", "call 20000 1")
	behind(t, first, "call a f 1000000", "call 0 5")
	behind(t, append(first, "call a f 1000000", "call a f 1000000"), "call a f 20000", "call 20000 1")
	load := "put module b; var i: int; begin while i < %d do i := i + 1; end; write i; end."
	behind(t, []string{fmt.Sprintf(load, 20000), "build"}, "load b", "load 1 20000")
	behind(t, []string{fmt.Sprintf(load, 1000000), "build"}, "load b", "load 5")
}

// 11.1: just 1000000 instructions: what a machine can do with so many, a line can, and no more.
func TestFuelEdge(t *testing.T) {
	for pad := range 8 {
		text := "module a; var x: int; proc f*(n); var i; begin " + strings.Repeat("x := n; ", pad) + "while i < n do i := i + 1; end; return i; end; begin end."
		var s shop.Shop
		s.Put(text)
		s.Build()
		o, err := s.Object("a")
		var m vm.Machine
		if _, loadErr := m.Load(o, 1000000); err != nil || loadErr != nil {
			t.Fatal(err, loadErr)
		}
		most := sort.Search(1000000, func(n int) bool {
			end, _, _ := m.Call("a", "f", []int64{int64(n)}, 1000000)
			return end.Way == api.Fuel
		}) - 1
		first := []string{"put " + text, "build", "load a"}
		behind(t, first, fmt.Sprint("call a f ", most), fmt.Sprint("call ", most, " 1"))
		behind(t, first, fmt.Sprint("call a f ", most+1), "call 0 5")
	}
}
