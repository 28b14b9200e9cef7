package run_test

import (
	"testing"

	"marquetry/api"
)

// 4.3: a REF without a Module is the Proc's own, or else the module's; own variables are 0 at each call.
func TestOwn(t *testing.T) {
	w := world(t, "module a; var x*: int; var y*: int; var t: array 2; "+
		"proc own*(x); var y; begin write y; y := x + 1; x := 9; write x; write y; return look(); end; proc look(); begin return x * 10 + y; end; "+
		"proc both*(p); var q; begin q := p; if p then both(p - 1); end; write p; write q; p := 7; return q; end; "+
		"proc hide*(t, f); begin t := t + f; return t; end; proc set*(p); begin x := p; t[1] := p; y := -p; end; begin x := 1; y := 2; end.")
	calls(t, w, "a", "own", []int64{5}, much, "done 0 9 6", 12)
	calls(t, w, "a", "own", []int64{6}, much, "done 0 9 7", 12)
	has(t, w, "a", "x", "1")
	has(t, w, "a", "y", "2")
	calls(t, w, "a", "both", []int64{2}, much, "done 0 0 1 1 2 2", 2)
	calls(t, w, "a", "hide", []int64{2, 3}, much, "done", 5)
	calls(t, w, "a", "set", []int64{4}, much, "done", 0)
	has(t, w, "a", "x", "4")
	has(t, w, "a", "y", "-4")
	has(t, w, "a", "t", "0 4")
}

// 4.3: each Proc goes in its own module, whoever calls it; a name of a module is none of a variable.
func TestOfOtherModules(t *testing.T) {
	w := world(t, "module a; var x*: int; var t*: array 2; proc f*(p); begin x := x + p; return g(); end; proc g(); begin return x + 100; end; begin x := 1; t[1] := 3; end.",
		"module b; import a; var x*: int; var t*: array 2; proc f*(p); begin x := a.f(p) + x; return g() + a.x; end; proc g(); begin return x + 1000; end; proc h*(a); var b; begin b := a; return a.x * 100 + a.t[b] + a; end; begin x := 5; end.",
		"module c; import b, a; proc f*(p); begin write b.x; write a.x; write b.f(p); write b.x; return a.f(p) + b.h(1); end; begin write a.x; write b.x; end.")
	calls(t, w, "c", "f", []int64{2}, much, "done 5 1 1111 108", 105+500+3+1)
	has(t, w, "a", "x", "5")
	has(t, w, "b", "x", "108")
	calls(t, w, "b", "h", []int64{0}, much, "done", 500)
	calls(t, w, "b", "h", []int64{2}, much, "bounds", 0)
}

// 4.3: what Return tells, from within whatever, or 0; nothing behind it is done.
func TestReturn(t *testing.T) {
	w := world(t, "module a; var x: int; proc stop*(); begin x := x + 1; end; proc in*(k); begin while 1 do if k = 0 then return 5; elsif k = 1 then while 1 do return 6; end; else x := k; k := k - 1; if k = 3 then return inner(k) + 1; end; end; end; end; "+
		"proc inner(k); begin if k = 3 then return k * 2; end; return 1; end; proc add*(k); begin if k = 1 then return 7; end; write stop() + in(0); end; proc least*(); begin return -9223372036854775807 - 1; end; proc big*(); begin return 9223372036854775807; end; begin end.")
	calls(t, w, "a", "stop", nil, much, "done", 0)
	calls(t, w, "a", "in", []int64{0}, much, "done", 5)
	calls(t, w, "a", "in", []int64{1}, much, "done", 6)
	calls(t, w, "a", "in", []int64{3}, much, "done", 6)
	calls(t, w, "a", "in", []int64{9}, much, "done", 7)
	calls(t, w, "a", "add", []int64{1}, much, "done", 7)
	calls(t, w, "a", "add", []int64{0}, much, "done 5", 0)
	calls(t, w, "a", "least", nil, much, "done", least)
	calls(t, w, "a", "big", nil, much, "done", most)
}

// 4.3: Deep: MaxCalls Procs wait already (that of Call is one), behind the Args.
func TestDeep(t *testing.T) {
	const all = api.MaxCalls
	w := world(t, "module a; proc down*(k); begin if k then return down(k - 1) + 1; end; return 0; end; proc id(p); begin return p; end; proc none(); begin end; "+
		"proc args*(k, j); begin if k then return args(k - 1, j); end; return id(1 div j); end; proc last*(k); begin if k then last(k - 1); else none(); end; end; "+
		"proc id3*(k); begin if k then return id3(k - 1); end; return id(id(id(4))) + id(5); end; proc again*(k, j); begin while j do j := j - 1; write down(k); end; return 1; end; begin end.",
		"module b; import a; proc down*(k, j); begin if k then return down(k - 1, j) + 1; end; return a.down(j) + 1; end; begin end.")
	calls(t, w, "a", "down", []int64{all - 1}, much, "done", all-1)
	calls(t, w, "a", "down", []int64{all}, much, "deep", 0)
	calls(t, w, "a", "down", []int64{all + 1}, much, "deep", 0)
	calls(t, w, "a", "last", []int64{all - 2}, much, "done", 0)
	calls(t, w, "a", "last", []int64{all - 1}, much, "deep", 0) // of one without STMTs, too
	calls(t, w, "a", "id3", []int64{all - 2}, much, "done", 9)  // of those in arguments none waits
	calls(t, w, "a", "id3", []int64{all - 1}, much, "deep", 0)
	calls(t, w, "a", "again", []int64{all - 2, 3}, much, "done 28 28 28", 1) // who told waits no more
	calls(t, w, "a", "again", []int64{all - 1, 3}, much, "deep", 0)
	calls(t, w, "b", "down", []int64{10, all - 12}, much, "done", 11+all-12)
	calls(t, w, "b", "down", []int64{10, all - 11}, much, "deep", 0)
	calls(t, w, "a", "args", []int64{all - 1, 1}, much, "deep", 0)
	calls(t, w, "a", "args", []int64{all - 1, 0}, much, "zero", 0)
	calls(t, w, "a", "args", []int64{all - 2, 1}, much, "done", 1)
	// A module's Body is no Proc.
	goes(t, "write down(29);", "done 29")
	goes(t, "write 1; write down(30);", "deep 1")
	goes(t, "while x < 50 do x := x + 1; y := y + down(29); end; write y;", "done 1450")
}
