package shop_test

import (
	"fmt"
	"testing"

	"marquetry/api"
	"marquetry/shop"
)

// plainText is a module of that name that does nothing.
func plainText(name string) string { return "module " + name + "; begin end." }

// full has as many sources as may be: m0, m1 ..
func full(t *testing.T) *shop.Shop {
	t.Helper()
	var s shop.Shop
	for i := range api.MaxModules {
		puts(t, &s, plainText(fmt.Sprint("m", i)))
	}
	return &s
}

// 10.1: a Shop's zero value has no sources, and nothing is built.
func TestZero(t *testing.T) {
	var s shop.Shop
	has(t, &s, "at first", "")
	hasNot(t, &s, "at first", "", "a", "zz")
	wrong(t, "drop", s.Drop("a"), api.ErrMissing, -1)
	wrong(t, "drop", s.Drop(""), api.ErrMissing, -1)
	builds(t, &s, "nothing", "")
	has(t, &s, "built of nothing", "")
	hasNot(t, &s, "built of nothing", "", "a")
}

// 10.1: Put: the name of what is put; it is not built by that.
func TestPut(t *testing.T) {
	var s shop.Shop
	puts(t, &s, textB, textA, plainText("a10"), "module\n b ; begin\nend .")
	has(t, &s, "put", "")
	hasNot(t, &s, "put", "a", "b", "a10")
	builds(t, &s, "put", "a a10 b")
}

// 10.1: Put: Parse's errors, with their place; what was put stays.
func TestPutNoModule(t *testing.T) {
	var s shop.Shop
	puts(t, &s, textA)
	for text, want := range map[string]api.At{
		"":                                      {Err: api.ErrForm, Place: 0},
		"  ":                                    {Err: api.ErrForm, Place: 2},
		"module a; begin end":                   {Err: api.ErrForm, Place: 19},
		"module a; begin x = 1; end.":           {Err: api.ErrForm, Place: 18},
		"module a; begin ? end.":                {Err: api.ErrForm, Place: 16},
		"module abcdefghijk; begin end.":        {Err: api.ErrLimit, Place: 7},
		"module a; var x: array 0; begin end.":  {Err: api.ErrRange, Place: 24},
		"module a; var x: array 31; begin end.": {Err: api.ErrLimit, Place: 23},
		"module b; begin end. module a;":        {Err: api.ErrForm, Place: 21},
		"put":                                   {Err: api.ErrForm, Place: 0},
	} {
		refuses(t, &s, text, want.Err, want.Place)
	}
	builds(t, &s, "the only one that was put", "a")
	isOf(t, object(t, &s, "a"), reads(t, textA), nil)
}

// 10.1: Put: what would be found in it by names is put, though it is never built.
func TestPutWhatIsWrong(t *testing.T) {
	var s shop.Shop
	puts(t, &s, "module a; import a, zz; begin write yy; end.", "module b; begin x := 1; end.")
}

// 10.1: Put: it is the source of its name, in the stead of the one that was.
func TestPutAgain(t *testing.T) {
	var s shop.Shop
	puts(t, &s, "module a; begin write zz; end.", textA, "module b; begin write zz; end.", textB)
	builds(t, &s, "the last ones", "a b")
	puts(t, &s, "module a; begin write zz; end.")
	fails(t, &s, "the last one", "a", api.ErrMissing, 22)
}

// 10.1: ErrFull: there are MaxModules sources, none of that name.
func TestPutFull(t *testing.T) {
	s := full(t)
	refuses(t, s, plainText("zz"), api.ErrFull, -1)
	refuses(t, s, plainText("m"), api.ErrFull, -1)
	refuses(t, s, "module zz;", api.ErrForm, 10) // told ahead
	puts(t, s, plainText("m9"), "module m3; begin write 1; end.", plainText("m0"))
	refuses(t, s, plainText("zz"), api.ErrFull, -1)
	builds(t, s, "all", "m0 m1 m2 m3 m4 m5 m6 m7 m8 m9")
	refuses(t, s, plainText("zz"), api.ErrFull, -1)
	drops(t, s, "m4")
	puts(t, s, plainText("zz"))
	refuses(t, s, plainText("m4"), api.ErrFull, -1)
	builds(t, s, "one for another", "zz")
	has(t, s, "one for another", "m0 m1 m2 m3 m5 m6 m7 m8 m9 zz")
}

// 10.1: ErrFull counts sources alone, not what is built.
func TestPutBesideWhatIsBuilt(t *testing.T) {
	s := full(t)
	builds(t, s, "all", "m0 m1 m2 m3 m4 m5 m6 m7 m8 m9")
	for i := range api.MaxModules {
		drops(t, s, fmt.Sprint("m", i))
	}
	for i := range api.MaxModules {
		puts(t, s, plainText(fmt.Sprint("n", i)))
	}
	refuses(t, s, plainText("m0"), api.ErrFull, -1)
	has(t, s, "not built yet", "m0 m1 m2 m3 m4 m5 m6 m7 m8 m9")
	builds(t, s, "others", "n0 n1 n2 n3 n4 n5 n6 n7 n8 n9")
	has(t, s, "others", "n0 n1 n2 n3 n4 n5 n6 n7 n8 n9")
	hasNot(t, s, "others", "m0", "m9")
}

// 10.1: Drop: ErrMissing: there is no such source; it is gone.
func TestDrop(t *testing.T) {
	var s shop.Shop
	puts(t, &s, textA, plainText("c"))
	for _, name := range []string{"", "b", "A", "a ", "zz", "module a", "\xff"} {
		wrong(t, "drop "+name, s.Drop(name), api.ErrMissing, -1)
	}
	drops(t, &s, "a")
	wrong(t, "drop it again", s.Drop("a"), api.ErrMissing, -1)
	builds(t, &s, "what is left", "c")
	hasNot(t, &s, "what is left", "a")
	puts(t, &s, textA)
	builds(t, &s, "it is back", "a")
	drops(t, &s, "a", "c")
	wrong(t, "what is built is no source", s.Drop("a"), api.ErrMissing, -1)
	builds(t, &s, "nothing is left", "")
	has(t, &s, "nothing is left", "")
	hasNot(t, &s, "nothing is left", "a", "c")
}

// 10.1: what is dropped was built, and is till all is built again.
func TestDropWhatIsBuilt(t *testing.T) {
	var s shop.Shop
	puts(t, &s, textA, textB)
	builds(t, &s, "both", "a b")
	was := all(t, &s)
	drops(t, &s, "b", "a")
	if now := all(t, &s); now != was {
		t.Errorf("%s; it was %s", now, was)
	}
	puts(t, &s, textB, textA)
	builds(t, &s, "both are back as they were", "")
	drops(t, &s, "b")
	builds(t, &s, "one is gone", "")
	has(t, &s, "one is gone", "a")
	hasNot(t, &s, "one is gone", "b")
	puts(t, &s, textB)
	builds(t, &s, "what is back was not built last", "b")
	has(t, &s, "it is back", "a b")
}
