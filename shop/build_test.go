package shop_test

import (
	"testing"

	"marquetry/api"
	"marquetry/shop"
)

// 10.1: Build: what was never built is built, in Order, not by names.
func TestBuildOrder(t *testing.T) {
	var s shop.Shop
	puts(t, &s, "module a; import d; begin end.", "module b; import a, c; begin end.", "module c; begin end.", "module d; begin end.", "module a1; begin end.")
	builds(t, &s, "all", "a1 c d a b")
	has(t, &s, "all", "a1 c d a b")
	builds(t, &s, "again", "")
	has(t, &s, "again", "a1 c d a b")
	puts(t, &s, "module a; import d; begin write 1; end.", "module d; begin write 1; end.", "module c; begin write 1; end.")
	builds(t, &s, "some", "c d a")
	has(t, &s, "some", "a1 c d a b")
	puts(t, &s, "module d; import b; begin end.", "module a; begin end.", "module a1; import d; begin end.", "module b; import c; begin end.")
	has(t, &s, "put, not built", "a1 c d a b")
	builds(t, &s, "the other way round", "a b d a1")
	has(t, &s, "the other way round", "a c b d a1")
}

// 10.1: Build: just those that are Stale: what is written otherwise, and who uses what is seen otherwise.
func TestBuildStale(t *testing.T) {
	for _, c := range []struct{ what, text, want string }{
		{"as it was", textA, ""},
		{"laid out otherwise", "module   a;\nvar x* :int; var t*: array 003; var own: int;\nproc f*(p);\nbegin own := ((own) + 1); return p+own; end;\nbegin x := 05; t[(1)] := 6; end.", ""},
		{"within", "module a; var x*: int; var t*: array 3; var own: int; proc f*(p); begin return p; end; begin x := 5; t[1] := 6; end.", "a"},
		{"otherwise named within", "module a; var x*: int; var t*: array 3; var mine: int; proc f*(q); begin mine := mine + 1; return q + mine; end; begin x := 5; t[1] := 6; end.", "a"},
		{"in another order", "module a; var own: int; var t*: array 3; var x*: int; proc f*(p); begin own := own + 1; return p + own; end; begin x := 5; t[1] := 6; end.", "a"},
		{"more is seen", "module a; var x*: int; var t*: array 3; var own*: int; proc f*(p); begin own := own + 1; return p + own; end; begin x := 5; t[1] := 6; end.", "a"},
		{"an array is longer", "module a; var x*: int; var t*: array 4; var own: int; proc f*(p); begin own := own + 1; return p + own; end; begin x := 5; t[1] := 6; end.", "a b"},
	} {
		var s shop.Shop
		puts(t, &s, textA, textB, "module c; import a, b; begin write b.x; end.")
		builds(t, &s, "all", "a b c")
		puts(t, &s, c.text)
		builds(t, &s, c.what, c.want)
		builds(t, &s, c.what+", again", "")
	}
}

// 10.1: Build: who names others by names of which others were changed too.
func TestBuildUsers(t *testing.T) {
	var s shop.Shop
	puts(t, &s, "module a; var x*: int; var y*: array 2; begin end.", "module b; import a; var x*: array 2; begin write a.x; end.", "module c; import b, a; begin write b.x[0] + a.y[0]; end.", "module d; import a, b, c; begin end.")
	builds(t, &s, "all", "a b c d")
	puts(t, &s, "module a; var x*: int; var y*: array 3; begin end.")
	builds(t, &s, "a.y", "a c")
	puts(t, &s, "module b; import a; var x*: array 3; begin write a.x; end.")
	builds(t, &s, "b.x", "b c")
	puts(t, &s, "module a; begin end.", "module b; var x*: array 1; begin end.", "module c; import b; begin write b.x[0]; end.")
	builds(t, &s, "all but d, that uses nothing", "a b c")
	puts(t, &s, "module d; import a, c; begin end.")
	builds(t, &s, "d", "d")
}

// 10.1: Build: what was is what was built last, whatever was put and dropped since.
func TestBuildSinceLast(t *testing.T) {
	var s shop.Shop
	other := "module a; var x*: array 9; begin end."
	puts(t, &s, textA, textB)
	builds(t, &s, "both", "a b")
	puts(t, &s, other)
	fails(t, &s, "b does not fit", "b", api.ErrArg, 44)
	puts(t, &s, textA)
	builds(t, &s, "as it was built", "")
	puts(t, &s, other)
	drops(t, &s, "a")
	fails(t, &s, "a is gone", "b", api.ErrNone, -1)
	puts(t, &s, textA)
	builds(t, &s, "as it was built, again", "")
	drops(t, &s, "b")
	puts(t, &s, other)
	builds(t, &s, "without b", "a")
	puts(t, &s, textA, textB)
	builds(t, &s, "as it was built ahead of the last time", "a b")
}

// 10.1: Build: Order's error, of no source, ahead of Compile's; nothing is built then.
func TestBuildCycle(t *testing.T) {
	var s shop.Shop
	puts(t, &s, "module a; import a; begin end.")
	fails(t, &s, "itself", "", api.ErrCycle, -1)
	puts(t, &s, "module a; import b; begin end.", "module b; begin end.")
	builds(t, &s, "none", "b a")
	puts(t, &s, "module b; import c; begin write zz; end.", "module c; import a; begin end.", "module d; import yy; begin write zz; end.")
	fails(t, &s, "three of them, and other errors", "", api.ErrCycle, -1)
	has(t, &s, "as it was", "b a")
	drops(t, &s, "c")
	fails(t, &s, "not any more", "b", api.ErrNone, -1)
	drops(t, &s, "d")
	puts(t, &s, "module b; begin end.")
	builds(t, &s, "as it was", "")
}

// 10.1: Build: Compile's error, with its place: in the first source, in Order, in which there is one.
func TestBuildWrong(t *testing.T) {
	for _, c := range []struct {
		what  string
		texts []string
		in    string
		want  api.Errno
		place int
	}{
		{"no such name", []string{"module a; begin write x; end."}, "a", api.ErrMissing, 22},
		{"no such module", []string{textB}, "b", api.ErrNone, -1},
		{"an import twice", []string{textA, "module b; import a, a; begin end."}, "b", api.ErrOrder, -1},
		{"not imported", []string{textA, "module b; begin write a.x; end."}, "b", api.ErrName, 22},
		{"not seen", []string{textA, "module b; import a; begin write a.own; end."}, "b", api.ErrMissing, 32},
		{"two called alike", []string{"module a; var x: int; var x: int; begin end."}, "a", api.ErrTwice, 26},
		{"no array", []string{textA, "module b; import a; begin write a.x[0]; end."}, "b", api.ErrArg, 32},
		{"of one", []string{textA, "module b; import a; begin a.f(1, 2); end."}, "b", api.ErrRange, 26},
		{"the first by name", []string{"module b; begin write x; end.", "module a; begin\nwrite x; end.", textC()}, "a", api.ErrMissing, 22},
		{"the first in order", []string{"module a; import b; begin write x; end.", "module b; begin y := 1; end."}, "b", api.ErrMissing, 16},
		{"behind one that is right", []string{textA, textC(), "module z; begin x(); end."}, "z", api.ErrMissing, 16},
	} {
		var s shop.Shop
		puts(t, &s, c.texts...)
		fails(t, &s, c.what, c.in, c.want, c.place)
		fails(t, &s, c.what+", again", c.in, c.want, c.place)
		has(t, &s, c.what, "")
		hasNot(t, &s, c.what, "a", "b", "c", "z")
	}
}

// textC is a module in which nothing is wrong.
func textC() string { return "module c; begin write 1; end." }

// 10.1: nothing is built then, not even those in which nothing is wrong; when it is mended, all are.
func TestBuildNothingThen(t *testing.T) {
	var s shop.Shop
	puts(t, &s, textA, textB, textC())
	builds(t, &s, "all", "a b c")
	puts(t, &s, "module a; var x*: int; var t*: array 4; proc f*(p); begin return 9; end; begin end.", "module c; begin write zz; end.", plainText("d"))
	drops(t, &s, "b")
	fails(t, &s, "c is wrong", "c", api.ErrMissing, 22)
	has(t, &s, "c is wrong", "a b c")
	hasNot(t, &s, "c is wrong", "d")
	puts(t, &s, textB, "module c; begin write 2; end.")
	builds(t, &s, "mended", "a b c d")
	has(t, &s, "mended", "a b c d")
}

// 10.1: Compile's error of a source that is not Stale: what it imports, and uses nothing of, is gone.
func TestBuildWrongNotStale(t *testing.T) {
	var s shop.Shop
	puts(t, &s, textA, "module b; import a; begin write 1; end.", "module c; begin write 1; end.")
	builds(t, &s, "all", "a b c")
	drops(t, &s, "a")
	fails(t, &s, "it is gone", "b", api.ErrNone, -1)
	puts(t, &s, "module c; begin write zz; end.")
	fails(t, &s, "it is gone, and one behind it is wrong", "b", api.ErrNone, -1)
	puts(t, &s, "module a1; begin write zz; end.")
	fails(t, &s, "it is gone, and one ahead of it is wrong", "a1", api.ErrMissing, 23)
	drops(t, &s, "a1")
	puts(t, &s, "module a; begin end.", "module c; begin write 1; end.")
	builds(t, &s, "another one is there", "a")
}

// 10.1: an error's place is in the text that was put last, though it is written as the one that was built.
func TestBuildPlaceInLast(t *testing.T) {
	var s shop.Shop
	puts(t, &s, textA, "module b; import a; begin write a.x; end.")
	builds(t, &s, "both", "a b")
	puts(t, &s, "module b; import a;\n\n\n begin write a.x; end.")
	builds(t, &s, "written alike", "")
	puts(t, &s, plainText("a"))
	fails(t, &s, "a.x is gone", "b", api.ErrMissing, 35)
	puts(t, &s, "module  b; import a; begin write a.x; end.")
	fails(t, &s, "a.x is gone", "b", api.ErrMissing, 33)
}

// 10.1: seen being Of all sources, also of those that come behind.
func TestBuildSeen(t *testing.T) {
	var s shop.Shop
	puts(t, &s, "module z; var x*: int; begin x := 7; end.", "module a; import z; begin write z.x; end.", "module m; import z, a; begin write z.x; end.")
	builds(t, &s, "all", "z a m")
	isOf(t, object(t, &s, "a"), reads(t, "module a; import z; begin write z.x; end."), sources(t, "module z; var x*: int; begin end."))
}
