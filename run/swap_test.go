package run_test

import (
	"testing"

	"marquetry/api"
)

// 4.4: m is in its place: Vars of the same Name and Len have what they had, all others 0; nothing is done.
func TestSwapKeeps(t *testing.T) {
	w := world(t, "module z; begin end.",
		"module a; var x*: int; var in: int; var t: array 3; var one: array 1; var num: int; var gone: int; var f: int; proc g(); begin end; begin x := 1; in := 2; t[0] := 3; t[2] := 4; one[0] := 5; num := 6; gone := 7; f := 8; end.",
		"module b; begin end.")
	swaps(t, w, "module a; var t*: array 3; var in*: int; var new: int; var x: int; var one: int; var num: array 1; var g: int; proc f(); begin end; begin x := 100; write 1; new := 1 div 0; end.", api.OK)
	has(t, w, "a", "x", "1")
	has(t, w, "a", "in", "2")
	has(t, w, "a", "t", "3 0 4")
	has(t, w, "a", "one", "0") // an array of one is no number
	has(t, w, "a", "num", "0")
	has(t, w, "a", "new", "0")
	has(t, w, "a", "g", "0")
	has(t, w, "a", "gone", "none")
	has(t, w, "a", "f", "none")
	swaps(t, w, "module a; var t: array 4; var x: int; var one: array 1; var gone: int; var f: int; begin end.", api.OK)
	has(t, w, "a", "t", "0 0 0 0")
	has(t, w, "a", "x", "1")
	has(t, w, "a", "one", "0") // what is gone is gone
	has(t, w, "a", "gone", "0")
	has(t, w, "a", "f", "0")
	swaps(t, w, "module a; begin end.", api.OK)
	has(t, w, "a", "x", "none")
	swaps(t, w, "module a; var x: int; begin end.", api.OK)
	has(t, w, "a", "x", "0")
}

// 4.4, 4.3: who uses it uses the one that is there now; and it uses what it now imports.
func TestSwapped(t *testing.T) {
	w := world(t, "module a; var x*: int; var t*: array 2; proc f*(p); begin x := x + p; return x; end; begin x := 1; t[1] := 2; end.",
		"module b; import a; var s: int; proc g*(p); begin s := s + 1; return a.f(p) * 100 + a.x + a.t[1]; end; begin end.",
		"module d; var x*: int; begin x := 50; end.")
	calls(t, w, "b", "g", []int64{3}, much, "done", 406)
	swaps(t, w, "module a; import d; var t*: array 2; var x*: int; var calls: int; proc more(p); begin calls := calls + 1; return p * 2; end; proc f*(q); begin t[1] := d.x; return more(q); end; begin x := 1000; end.", api.OK)
	calls(t, w, "b", "g", []int64{3}, much, "done", 654)
	has(t, w, "a", "calls", "1")
	has(t, w, "a", "t", "0 50")
	has(t, w, "b", "s", "2")
	swaps(t, w, "module b; import a; var s: int; proc g*(p, q); begin s := s + 10; return a.x + p - q; end; begin s := 0; end.", api.OK)
	refusesCall(t, w, "b", "g", []int64{3}, api.ErrRange)
	calls(t, w, "b", "g", []int64{3, 2}, much, "done", 5)
	has(t, w, "b", "s", "12")
	swaps(t, w, "module b; proc g(p); begin end; begin end.", api.OK)
	refusesCall(t, w, "b", "g", []int64{3}, api.ErrMissing)
	refuses(t, w, "module b; begin end.", api.ErrTwice)
	loads(t, w, "module c; import a, b; begin write a.f(4); end.", much, "done 8")
}

// 4.4: ErrMissing, ahead of Check's errors; Check's, with their places.
func TestSwapRefused(t *testing.T) {
	w := world(t, "module a; var x*: int; proc f*(p); begin end; begin x := 4; end.", "module b; import a; begin write a.x; end.")
	for s, want := range map[string]api.Errno{
		"module c; begin end.": api.ErrMissing,
		"module c; import zz; var x: int; var x: int; begin end.":                api.ErrMissing,
		"module a; import zz; begin end.":                                        api.ErrNone,
		"module a; import a; begin end.":                                         api.ErrOrder, // ahead of ErrCycle
		"module a; var x*: int; var @x: int; begin end.":                         api.ErrTwice,
		"module a; var x*: int; begin write @y; end.":                            api.ErrMissing,
		"module a; import b; begin write @zz; end.":                              api.ErrMissing,
		"module a; var y: int; begin write @b.x; end.":                           api.ErrName,
		"module b; import a; begin @a.f(); end.":                                 api.ErrRange,
		"module b; import a; begin write @a.f; end.":                             api.ErrArg,
		"module b; import a; proc g(); begin write a.x; @a.g(); end; begin end.": api.ErrMissing,
	} {
		swaps(t, w, s, want)
		has(t, w, "a", "x", "4")
		calls(t, w, "a", "f", []int64{1}, much, "done", 0)
	}
}

// 4.4: ErrCycle: a module that m imports leads to it by what modules import, as they are now.
func TestSwapCycle(t *testing.T) {
	w := world(t, "module a; var x*: int; begin end.", "module b; import a; begin write a.x; end.", "module c; import b; begin end.", "module d; begin end.", "module e; import d, c; begin end.")
	for _, s := range []string{
		"module a; import b; var x*: int; begin end.", "module a; import c; var x*: int; begin end.", "module a; import e; var x*: int; begin end.", "module a; import d, e; var x*: int; begin end.",
		"module b; import c; begin end.", "module b; import a, e; begin end.", "module c; import e; begin end.", "module d; import e; begin end.",
		"module a; import b; begin end.", // ahead of ErrState
	} {
		swaps(t, w, s, api.ErrCycle)
	}
	swaps(t, w, "module a; import d; var x*: int; begin end.", api.OK)
	swaps(t, w, "module d; import a; begin end.", api.ErrCycle)
	swaps(t, w, "module d; import b; begin end.", api.ErrCycle)
	swaps(t, w, "module d; import c; begin end.", api.ErrCycle)
	swaps(t, w, "module b; begin end.", api.OK) // now nothing leads to a but itself
	swaps(t, w, "module d; import c, b; begin end.", api.OK)
	swaps(t, w, "module a; import e; begin end.", api.OK)
	swaps(t, w, "module c; import a; begin end.", api.ErrCycle)
	swaps(t, w, "module b; import a; begin end.", api.ErrCycle)
	swaps(t, w, "module e; begin end.", api.OK)
	swaps(t, w, "module c; import a, b; begin end.", api.OK)
	// Which ones m imported itself makes no difference.
	swaps(t, w, "module c; import b, a; begin end.", api.OK)
	swaps(t, w, "module c; begin end.", api.OK)
}

// 4.4: ErrState: what a module uses of this one is not there any more, or not so; what nobody uses may be otherwise.
func TestSwapState(t *testing.T) {
	w := world(t, "module a; var x*: int; var y*: int; var t*: array 3; var in: int; proc f*(p); begin return p; end; proc g*(); begin end; proc h*(p, q); begin end; begin x := 5; end.",
		"module n; import a; begin end.",
		"module b; import a; begin write a.x; end.",
		"module c; import b, a; proc k*(p); begin if 0 then while 1 do return a.f(a.t[p]); end; end; return 3; end; begin end.")
	used := "var x*: int; var t*: array 3; proc f*(p); begin return -p; end; "
	for _, s := range []string{
		"", "var x: int; var t*: array 3; proc f*(p); begin end; ", "var x*: array 1; var t*: array 3; proc f*(p); begin end; ", "var t*: array 3; proc f*(p); begin end; ", "var t*: array 3; proc f*(p); begin end; proc x*(); begin end; ",
		"var x*: int; var t*: array 4; proc f*(p); begin end; ", "var x*: int; var t*: int; proc f*(p); begin end; ", "var x*: int; var t: array 3; proc f*(p); begin end; ", "var x*: int; proc f*(p); begin end; ",
		"var x*: int; var t*: array 3; ", "var x*: int; var t*: array 3; proc f(p); begin end; ", "var x*: int; var t*: array 3; proc f*(); begin end; ", "var x*: int; var t*: array 3; proc f*(p, q); begin end; ", "var x*: int; var t*: array 3; var f*: int; ",
	} {
		swaps(t, w, "module a; "+s+"begin end.", api.ErrState)
		has(t, w, "a", "x", "5")
		calls(t, w, "a", "f", []int64{2}, much, "done", 2)
		calls(t, w, "a", "h", []int64{1, 2}, much, "done", 0)
	}
	swaps(t, w, "module a; "+used+"begin end.", api.OK)
	calls(t, w, "a", "f", []int64{2}, much, "done", -2)
	swaps(t, w, "module a; var y*: array 2; var in*: int; "+used+"proc g*(p); begin end; proc h(p); begin end; begin end.", api.OK)
}

// 4.4: what modules use is what they use now.
func TestSwapStateNow(t *testing.T) {
	w := world(t, "module a; var x*: int; var y*: int; begin x := 5; end.", "module b; import a; begin write a.x; end.")
	swaps(t, w, "module a; var x*: int; begin end.", api.OK)
	swaps(t, w, "module a; var y*: int; begin end.", api.ErrState)
	swaps(t, w, "module b; import a; begin end.", api.OK)
	swaps(t, w, "module a; var y*: int; begin end.", api.OK)
	swaps(t, w, "module b; import a; begin write @a.x; end.", api.ErrMissing)
	swaps(t, w, "module b; import a; begin write a.y; end.", api.OK)
	swaps(t, w, "module a; var x*: int; begin end.", api.ErrState)
	has(t, w, "a", "x", "none")
	has(t, w, "a", "y", "0")
}
