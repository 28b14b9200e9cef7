package run_test

import (
	"fmt"
	"strings"
	"testing"

	"marquetry/api"
	"marquetry/run"
)

// 4.2: a World's zero value has no modules.
func TestNothingThere(t *testing.T) {
	var w run.World
	if len(w.Names()) != 0 {
		t.Errorf("there are %v", w.Names())
	}
	has(t, &w, "m", "x", "none")
	has(t, &w, "", "", "none")
	refusesCall(t, &w, "m", "f", nil, api.ErrMissing)
	refusesCall(t, &w, "", "", []int64{1}, api.ErrMissing)
	swaps(t, &w, "module m; begin end.", api.ErrMissing)
	refuses(t, &w, "module m; import a; begin end.", api.ErrNone)
}

// 4.2: m is there, its Vars all 0, and its Body is done, of what others have.
func TestLoad(t *testing.T) {
	var w run.World
	loads(t, &w, "module b; var x*: int; var t*: array 3; var in: int; proc f*(a); begin in := in + a; return in * 10; end; begin write x + t[2]; x := 7; t[1] := x + 1; write t[1]; end.", much, "done 0 8")
	loads(t, &w, "module a; import b; var x: int; begin write b.x; write b.t[1]; write b.f(2); write b.f(1); x := b.x; x := x + 1; end.", much, "done 7 8 20 30")
	loads(t, &w, "module c; begin end.", much, "done")
	if got := fmt.Sprint(w.Names()); got != "[b a c]" {
		t.Errorf("there are %s; want [b a c]", got)
	}
	has(t, &w, "b", "x", "7")
	has(t, &w, "b", "t", "0 8 0")
	has(t, &w, "b", "in", "3")
	has(t, &w, "a", "x", "8")
}

// 4.2: m is there however its Body ends, with what was done till then.
func TestLoadedHoweverItEnds(t *testing.T) {
	for s, want := range map[string]string{
		"write 1; x := 5; return 9; x := 6; write 2;":                                 "done 1",
		"x := 5; while 1 do if x then while 2 do return 0; end; end; end; x := 6;":    "done",
		"write 1; x := 5; write x div 0; x := 6;":                                     "zero 1",
		"write 1; x := 5; write t[x]; x := 6;":                                        "bounds 1",
		"write 1; x := 5; write down(30); x := 6;":                                    "deep 1",
		"write 1; x := 5; while 1 do end; x := 6;":                                    "fuel 1",
		"x := 5; while y < 200 do y := y + 1; write 8; end; write 9; x := 6;":         "full" + strings.Repeat(" 8", 200),
		"write 1; x := 5; return up(0) div y; x := 6;":                                "zero 1",
		"if 1 then elsif 2 then else end; x := 4; if x then up(1); end; none();":      "done",
		"x := 5; if 0 then x := 1; elsif 0 then x := 2; elsif y then x := 3; end;":    "done",
		"x := 1; if 0 then x := 2; elsif 0 then x := 3; else up(4); end; write 1;":    "done 1",
		"x := 1; if 0 then x := 2; elsif 5 - 4 then up(4); else x := 3; end; none();": "done",
	} {
		var w run.World
		loads(t, &w, around(s), much, want)
		has(t, &w, "m", "x", "5")
		refuses(t, &w, around(s), api.ErrTwice)
		if len(w.Names()) != 1 {
			t.Errorf("%s: there are %v", s, w.Names())
		}
	}
}

// 4.2: ErrTwice, ahead of Check's errors; Check's, of what others see of all modules, with their places.
func TestLoadRefused(t *testing.T) {
	w := world(t, "module a; var x*: int; var in: int; var t*: array 2; proc f*(p); begin end; proc hid(); begin end; begin x := 4; end.", "module b; import a; begin end.")
	for s, want := range map[string]api.Errno{
		"module a; begin end.": api.ErrTwice,
		"module b; import zz; var x: int; var x: int; begin end.":           api.ErrTwice,
		"module c; import zz; begin end.":                                   api.ErrNone,
		"module c; import c; begin end.":                                    api.ErrOrder,
		"module c; import a, a; begin end.":                                 api.ErrOrder,
		"module c; var x: int; var @x: int; begin end.":                     api.ErrTwice,
		"module c; begin write 1; write @x; end.":                           api.ErrMissing,
		"module c; import b; begin write @a.x; end.":                        api.ErrName,
		"module c; import a; begin write a.x + @a.in; end.":                 api.ErrMissing,
		"module c; import a; begin @a.hid(); end.":                          api.ErrMissing,
		"module c; import a, b; begin write @b.x; end.":                     api.ErrMissing,
		"module c; import a; begin write @a.t; end.":                        api.ErrArg,
		"module c; import a; begin write @a.x[0]; end.":                     api.ErrArg,
		"module c; import a; begin a.f(1); @a.f(); end.":                    api.ErrRange,
		"module c; import a; proc f(a); begin return @b.x; end; begin end.": api.ErrName,
	} {
		refuses(t, w, s, want)
		has(t, w, "c", "x", "none")
		has(t, w, "a", "x", "4")
	}
}

// 4.2: ErrFull, behind all that.
func TestFull(t *testing.T) {
	var w run.World
	names := ""
	for i := range api.MaxModules {
		name := string(rune('k' - i))
		loads(t, &w, "module "+name+"; var x*: int; begin x := 1; end.", much, "done")
		names += " " + name
	}
	refuses(t, &w, "module z; begin end.", api.ErrFull)
	refuses(t, &w, "module z; import k, b; begin write k.x; end.", api.ErrFull)
	refuses(t, &w, "module z; begin write @x; end.", api.ErrMissing)
	refuses(t, &w, "module z; import zz; begin end.", api.ErrNone)
	refuses(t, &w, "module c; begin write x; end.", api.ErrTwice)
	refuses(t, &w, "module z; begin end.", api.ErrFull)
	if got := fmt.Sprint(w.Names()); got != "["+names[1:]+"]" {
		t.Errorf("there are %s; want%s", got, names)
	}
	swaps(t, &w, "module c; import d; var x*: int; begin end.", api.OK)
	has(t, &w, "c", "x", "1")
}

// 4.2: Get: of Vars alone, whether others see them or not.
func TestGet(t *testing.T) {
	w := world(t, "module a; var x*: int; var in: int; var t: array 30; var one*: array 1; proc f*(p); var q; begin q := p; end; begin x := -9223372036854775807 - 1; t[29] := 1; one[0] := 2; f(3); end.", "module b; import a; begin end.")
	has(t, w, "a", "x", "-9223372036854775808")
	has(t, w, "a", "in", "0")
	has(t, w, "a", "t", strings.Repeat("0 ", 29)+"1")
	has(t, w, "a", "one", "2")
	for _, name := range []string{"f", "p", "q", "a", "b", "", "xx", "X", "a.x", "x "} {
		has(t, w, "a", name, "none")
	}
	for _, module := range []string{"b", "c", "", "A", "a "} {
		has(t, w, module, "x", "none")
	}
}

// 4.2: Call: ErrMissing, ErrRange; how it ended, and what it told, if Done.
func TestCall(t *testing.T) {
	w := world(t, "module a; var x*: int; var t*: array 2; proc hid(); begin return 1; end; proc f*(); begin x := x + 1; return hid() + x; end; "+
		"proc none*(p, q); var r; begin write r; r := p; write p; write q; end; proc by*(p); begin write 5; return 12 div p; end; "+
		"proc all*(a, b, c, d, e, f, g, h, i, j); begin return a + j * 10; end; proc add(p); begin return p; end; begin end.")
	for _, name := range []string{"hid", "add", "x", "t", "g", "", "p", "a", "F", "f "} {
		for _, args := range [][]int64{nil, {1}, {1, 2}} {
			refusesCall(t, w, "a", name, args, api.ErrMissing)
			refusesCall(t, w, "b", name, args, api.ErrMissing)
		}
	}
	refusesCall(t, w, "b", "f", nil, api.ErrMissing)
	refusesCall(t, w, "", "f", nil, api.ErrMissing)
	refusesCall(t, w, "a", "f", []int64{1}, api.ErrRange)
	refusesCall(t, w, "a", "none", nil, api.ErrRange)
	refusesCall(t, w, "a", "none", []int64{1}, api.ErrRange)
	refusesCall(t, w, "a", "none", []int64{1, 2, 3}, api.ErrRange) // its own variables are no parameters
	refusesCall(t, w, "a", "all", make([]int64, 9), api.ErrRange)
	refusesCall(t, w, "a", "all", make([]int64, 11), api.ErrRange)
	has(t, w, "a", "x", "0")
	calls(t, w, "a", "f", nil, much, "done", 2)
	calls(t, w, "a", "f", []int64{}, much, "done", 3)
	calls(t, w, "a", "none", []int64{least, most}, much, "done 0 -9223372036854775808 9223372036854775807", 0)
	calls(t, w, "a", "by", []int64{5}, much, "done 5", 2)
	calls(t, w, "a", "by", []int64{-5}, much, "done 5", -3)
	calls(t, w, "a", "by", []int64{0}, much, "zero 5", 0)
	calls(t, w, "a", "by", []int64{5}, 1, "fuel 5", 0)
	calls(t, w, "a", "all", []int64{1, 2, 3, 4, 5, 6, 7, 8, 9, 10}, much, "done", 101)
	calls(t, w, "a", "f", nil, 1, "fuel", 0) // what was done till then stays done
	has(t, w, "a", "x", "3")
	calls(t, w, "a", "f", nil, much, "done", 5)
}
