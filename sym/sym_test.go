package sym_test

import (
	"hash/fnv"
	"math"
	"reflect"
	"slices"
	"strconv"
	"strings"
	"testing"

	"marquetry/api"
	"marquetry/sym"
)

// asks holds Syms against those that are wanted.
func asks(t *testing.T, what string, got, want []api.Sym) {
	t.Helper()
	if !slices.Equal(got, want) {
		t.Errorf("%s: %+v; want %+v", what, got, want)
	}
}

// Example 2.
func TestExample(t *testing.T) {
	m := reads(t, "module m; var y*: int; var x: int; proc f*(a, b); begin end; begin end.")
	if got, want := sym.Print(sym.Of(m)), "proc f 2\nint y\n"; got != want {
		t.Errorf("%q; want %q", got, want)
	}
}

// 2.1: Of: each that is Seen, and what is told of it.
func TestOf(t *testing.T) {
	for s, want := range map[string][]api.Sym{
		"module m; begin end.": nil,
		"module m; var x: int; var t: array 3; proc f(a); begin end; begin x := 1; end.":           nil,
		"module m; var x*: int; begin end.":                                                        {{Name: "x", Args: -1}},
		"module m; var t*: array 1; var u*: array 30; begin end.":                                  {{Name: "t", Len: 1, Args: -1}, {Name: "u", Len: 30, Args: -1}},
		"module m; proc f*(); begin end; begin end.":                                               {{Name: "f"}},
		"module m; proc f*(a, b, c); var d, e; begin end; begin end.":                              {{Name: "f", Args: 3}},
		"module m; proc f*(a, b, c, d, e, f, g, h, i, j); begin end; begin end.":                   {{Name: "f", Args: 10}},
		"module m; var x: int; var y*: int; proc f(); begin end; proc g*(); begin end; begin end.": {{Name: "g"}, {Name: "y", Args: -1}},
	} {
		asks(t, s, sym.Of(reads(t, s)), want)
	}
}

// 2.1: Of: by their names, byte by byte, variables and procedures together.
func TestOfInOrder(t *testing.T) {
	m := reads(t, "module m; var z*: int; var b*: int; var a10*: array 2; var a2*: int; proc c*(); begin end; proc a*(p); begin end; proc a1*(); begin end; proc za*(); begin end; proc a1b*(); begin end; begin end.")
	asks(t, "Of", sym.Of(m), []api.Sym{
		{Name: "a", Args: 1}, {Name: "a1"}, {Name: "a10", Len: 2, Args: -1}, {Name: "a1b"}, {Name: "a2", Args: -1},
		{Name: "b", Args: -1}, {Name: "c"}, {Name: "z", Args: -1}, {Name: "za"},
	})
}

// 2.1: Of: of those that are called alike variables first, as they stand.
func TestOfAlike(t *testing.T) {
	m := reads(t, "module m; var x*: array 2; var y*: int; var x*: int; var x*: array 1; var x: array 9; proc x*(a, b); begin end; proc x*(); begin end; proc a*(); begin end; proc x*(a); begin end; begin end.")
	asks(t, "Of", sym.Of(m), []api.Sym{
		{Name: "a"},
		{Name: "x", Len: 2, Args: -1}, {Name: "x", Args: -1}, {Name: "x", Len: 1, Args: -1},
		{Name: "x", Args: 2}, {Name: "x"}, {Name: "x", Args: 1},
		{Name: "y", Args: -1},
	})
}

// 2.1: Of: the same of as many as there may be, called alike by threes.
func TestOfManyAlike(t *testing.T) {
	params := strings.Split("a b c d e f g h i j", " ")
	vars, procs := "", ""
	alike := map[string][]api.Sym{}
	for i := range api.MaxVars {
		name := []string{"z", "x", "y"}[i%3]
		vars += "var " + name + "*: array " + strconv.Itoa(30-i) + "; "
		alike[name] = append(alike[name], api.Sym{Name: name, Len: 30 - i, Args: -1})
	}
	for i := range api.MaxProcs {
		name := []string{"y", "z", "x"}[i%3]
		procs += "proc " + name + "*(" + strings.Join(params[i:], ", ") + "); begin end; "
		alike[name] = append(alike[name], api.Sym{Name: name, Args: len(params) - i})
	}
	m := reads(t, "module m; "+vars+procs+"begin end.")
	asks(t, "Of", sym.Of(m), slices.Concat(alike["x"], alike["y"], alike["z"]))
}

// 2.1: Find: the first that is called so, in whatever order they stand.
func TestFind(t *testing.T) {
	l := []api.Sym{{Name: "z"}, {Name: "b", Args: -1}, {Name: "ab"}, {Name: "b", Args: 1}, {Name: "z", Len: 2}, {}}
	for name, want := range map[string]int{"z": 0, "b": 1, "ab": 2, "": 5} {
		if got := sym.Find(l, name); got != want {
			t.Errorf("%q: %d; want %d", name, got, want)
		}
	}
	for _, name := range []string{"a", "B", "zz", "b ", "\x00"} {
		if got := sym.Find(l, name); got >= 0 {
			t.Errorf("%q: %d; want none", name, got)
		}
	}
	if got := sym.Find(nil, ""); got >= 0 {
		t.Errorf("of nothing: %d; want none", got)
	}
	if got := sym.Find(l[:2], "ab"); got >= 0 {
		t.Errorf("behind the list's length: %d; want none", got)
	}
}

// 2.1: Print: a line each, in the order in which they are given.
func TestPrint(t *testing.T) {
	for _, c := range []struct {
		sym  api.Sym
		want string
	}{
		{api.Sym{Name: "f"}, "proc f 0\n"},
		{api.Sym{Name: "f", Args: 10}, "proc f 10\n"},
		{api.Sym{Name: "f", Args: math.MaxInt}, "proc f 9223372036854775807\n"},
		{api.Sym{Name: "f", Len: 3}, "proc f 0\n"},
		{api.Sym{Name: "t", Len: 1, Args: -1}, "array t 1\n"},
		{api.Sym{Name: "t", Len: 30, Args: -1}, "array t 30\n"},
		{api.Sym{Name: "t", Len: 30, Args: math.MinInt}, "array t 30\n"},
		{api.Sym{Name: "x", Args: -1}, "int x\n"},
		{api.Sym{Name: "x", Len: -1, Args: -2}, "int x\n"},
		{api.Sym{Args: -1}, "int \n"},
		{api.Sym{Name: "\xff\n", Args: -1}, "int \xff\n\n"},
	} {
		if got := sym.Print([]api.Sym{c.sym}); got != c.want {
			t.Errorf("%+v: %q; want %q", c.sym, got, c.want)
		}
	}
	if got := sym.Print(nil); got != "" {
		t.Errorf("of nothing: %q", got)
	}
	l := []api.Sym{{Name: "z", Args: 2}, {Name: "a", Args: -1}, {Name: "t", Len: 4, Args: -1}, {Name: "a", Args: -1}}
	if got, want := sym.Print(l), "proc z 2\nint a\narray t 4\nint a\n"; got != want {
		t.Errorf("%q; want %q", got, want)
	}
}

// 2.1: Sum: FNV-1a of 32 bits, byte by byte.
func TestSum(t *testing.T) {
	for s, want := range map[string]uint32{"": 2166136261, "a": 0xe40c292c, "foobar": 0xbf9cf968, "\x00": 0x050c5d1f} {
		if got := sym.Sum(s); got != want {
			t.Errorf("%q: %d; want %d", s, got, want)
		}
	}
	d := die(1)
	for range 2000 {
		b := make([]byte, d.n(40))
		for i := range b {
			b[i] = byte(d.n(256))
		}
		h := fnv.New32a()
		h.Write(b)
		if got := sym.Sum(string(b)); got != h.Sum32() {
			t.Fatalf("%q: %d; want %d", b, got, h.Sum32())
		}
	}
}

// 2.1: Needs: name by name, the first that is called so, or none.
func TestNeeds(t *testing.T) {
	l := []api.Sym{{Name: "x", Args: -1}, {Name: "f", Args: 2}, {Name: "t", Len: 4, Args: -1}, {Name: "x", Args: 7}, {Name: "f", Args: -1}}
	for names, want := range map[string]string{
		"":          "",
		"x":         "int x\n",
		"t f":       "array t 4\nproc f 2\n",
		"f t":       "proc f 2\narray t 4\n",
		"zz":        "none zz\n",
		"zz x a":    "none zz\nint x\nnone a\n",
		"x x zz zz": "int x\nint x\nnone zz\nnone zz\n",
		"int none":  "none int\nnone none\n",
	} {
		if got := sym.Needs(l, strings.Fields(names)); got != want {
			t.Errorf("%q: %q; want %q", names, got, want)
		}
	}
	if got := sym.Needs(nil, []string{"x", ""}); got != "none x\nnone \n" {
		t.Errorf("of nothing: %q", got)
	}
	if got := sym.Needs(l[:1], []string{"f"}); got != "none f\n" {
		t.Errorf("behind the list's length: %q", got)
	}
}

// 2 of the whole: what is within is not seen, and who uses nothing needs nothing.
func TestWithinIsNotSeen(t *testing.T) {
	one := reads(t, "module m; import a; var x*: int; var y: int; proc f*(b); var c; begin return 1; end; proc g(); begin end; begin end.")
	two := reads(t, "module n; var z: array 3; var x*: int; proc h(a, b); begin end; proc f*(q); begin write q; end; begin write 1; end.")
	asks(t, "with another inside", sym.Of(two), sym.Of(one))
	if got := sym.Needs(sym.Of(one), sym.Used(two, "m")); got != "" {
		t.Errorf("who uses nothing needs %q", got)
	}
}

// P4: nothing that is handed in is written into, and what comes out is the caller's.
func TestKeeps(t *testing.T) {
	s := "module m; import a; var z*: int; var x*: array 2; proc f*(b); begin a.g(a.f(a.x)); end; begin write a.x + a.t[a.g()]; end."
	m, same := reads(t, s), reads(t, s)
	one, two := sym.Of(m), sym.Of(m)
	asks(t, "told anew", one, two)
	names, again := sym.Used(m, "a"), sym.Used(m, "a")
	if !slices.Equal(names, again) {
		t.Errorf("%v, then %v", names, again)
	}
	wanted := []string{"z", "f", "a", "f", "behind"}
	l := []api.Sym{{Name: "z"}, {Name: "a", Args: -1}, {Name: "behind"}}
	sym.Print(l[:2])
	sym.Needs(l[:2], wanted[:4])
	sym.Find(l[:2], "a")
	asks(t, "handed in", l, []api.Sym{{Name: "z"}, {Name: "a", Args: -1}, {Name: "behind"}})
	if !slices.Equal(wanted, []string{"z", "f", "a", "f", "behind"}) {
		t.Errorf("names are now %v", wanted)
	}
	one[0], names[0] = api.Sym{}, ""
	if two[0].Name != "f" || again[0] != "f" || !reflect.DeepEqual(m, same) {
		t.Errorf("what is written into an answer is seen elsewhere: %+v, %v, %+v", two, again, m)
	}
}
