package check_test

import (
	"maps"
	"reflect"
	"slices"
	"strings"
	"testing"

	"marquetry/api"
	"marquetry/check"
	"marquetry/plain"
)

// 3.1: modules in which nothing is found.
func TestNothingFound(t *testing.T) {
	for _, s := range []string{
		"module m; begin end.",
		"module m; import a, b, c; begin end.",
		"module m; import c, b, a; begin write a.x + b.x[a.x]; end.",
		"module m; var x: int; var t: array 1; begin x := x + t[x]; t[x] := t[t[x]]; end.",
		"module m; var x: int; proc f(); begin x := g(1, f()); return f(); end; proc g(p, q); begin return g(q, f()); end; begin f(); x := g(1, 2); end.",
		"module m; proc f(p, q); var r, s; begin p := q; r := s; s := p + q + r + s; end; begin end.",
		"module m; import a; begin a.f(1); a.g(); a.h(a.g(), a.f(a.t[a.x])); write a.one[0]; end.",
		"module m; var x: int; begin while x < 3 do x := x + 1; end; if x then write x; elsif x then write x; else write x; end; return x; end.",
	} {
		asks(t, s, api.OK)
	}
	told(t, "seen of nobody", check.Check(reads(t, "module m; var x: int; begin x := 1; end."), nil), api.OK, -1)
	told(t, "no module", check.Check(api.Module{}, nil), api.OK, -1)
}

// 3.1: procedures stand in any order, and what is near hides what is far.
func TestNear(t *testing.T) {
	for _, s := range []string{
		"module m; var t: array 3; proc f(t); begin t := t + 1; end; begin t[0] := 1; end.",
		"module m; var t: array 3; proc f(); var t; begin t := t + 1; end; begin t[0] := t[1]; end.",
		"module m; proc g(f); begin f := f; end; proc f(g); begin return g; end; begin g(f(1)); end.",
		"module m; proc f(f); begin return f; end; begin f(1); end.",
		"module m; proc f(a, b); begin return b; end; proc g(b, a); var c; begin return c; end; begin end.",
		"module m; import a; var a: int; var m: int; proc f(a); begin a := a.x; write a; m := a; end; begin a := a.x + m; end.",
		"module m; import a; var x: array 2; var f: int; proc t(p); begin end; begin x[0] := a.x; f := a.f(t(1)); f := a.t[f]; end.",
	} {
		asks(t, s, api.OK)
	}
	asks(t, "module m; var t: array 3; proc f(t); begin write @t[0]; end; begin end.", api.ErrArg)
	asks(t, "module m; var t: array 3; proc f(t); begin @t[0] := 1; end; begin end.", api.ErrArg)
	asks(t, "module m; var t: array 3; proc f(); var t; begin write @t[0]; end; begin end.", api.ErrArg)
	asks(t, "module m; proc g(f); begin @f(1); end; proc f(g); begin end; begin end.", api.ErrArg)
	asks(t, "module m; proc f(); var f; begin write 1 + @f(); end; begin end.", api.ErrArg)
	asks(t, "module m; proc f(p); var q; begin end; begin write @p; end.", api.ErrMissing)
	asks(t, "module m; proc f(p); var q; begin end; begin write @q; end.", api.ErrMissing)
	asks(t, "module m; proc f(p); begin end; proc g(q); begin write q; write @p; end; begin end.", api.ErrMissing)
	asks(t, "module m; proc g(q); begin write q; write @p; end; proc f(p); begin end; begin end.", api.ErrMissing)
}

// 3.1: import by import: ErrOrder: m's own name, or one ahead; ErrNone: not in seen; neither has an At.
func TestImports(t *testing.T) {
	for names, want := range map[string]api.Errno{
		"a": api.OK, "a, b": api.OK, "b, a": api.OK, "c": api.OK, "c, a, b": api.OK,
		"m": api.ErrOrder, "a, m": api.ErrOrder, "m, a": api.ErrOrder, "m, zz": api.ErrOrder, "m, m": api.ErrOrder,
		"a, a": api.ErrOrder, "a, b, a": api.ErrOrder, "a, b, b": api.ErrOrder, "a, a, zz": api.ErrOrder,
		"zz": api.ErrNone, "a, zz": api.ErrNone, "zz, a": api.ErrNone, "zz, m": api.ErrNone, "zz, zz": api.ErrNone, "zz, a, a": api.ErrNone, "a, zz, a": api.ErrNone, "aa": api.ErrNone,
	} {
		asks(t, "module m; import "+names+"; begin end.", want)
		// What is wrong with an import is told ahead of all else.
		if want != api.OK {
			asks(t, "module m; import "+names+"; var x: int; var x: int; proc f(p, p); begin zz := 1; end; begin zz.x(); end.", want)
		}
	}
	// Its own name is no import's, even if one is called so already.
	seen := map[string][]api.Sym{"m": nil, "a": nil}
	told(t, "m again", check.Check(reads(t, "module m; import a; begin end."), seen), api.OK, -1)
	told(t, "m of m", check.Check(reads(t, "module m; import a, m; begin end."), seen), api.ErrOrder, -1)
	told(t, "of nobody", check.Check(reads(t, "module m; import a; begin end."), nil), api.ErrNone, -1)
	// Who has nothing that others see is there nevertheless.
	told(t, "a has nothing", check.Check(reads(t, "module m; import a; begin write a.x; end."), seen), api.ErrMissing, 32)
}

// 3.1: ErrTwice, at a Var, then at a Proc.
func TestTwice(t *testing.T) {
	for _, s := range []string{
		"module m; var x: int; var @x: int; begin end.",
		"module m; var x: int; var y: int; var @x*: array 2; var y: int; begin end.",
		"module m; var x: int; @proc x(); begin end; begin end.",
		"module m; proc f(); begin end; @proc f*(a); begin end; begin end.",
		"module m; proc f(); begin end; proc g(); begin end; @proc g(); begin end; proc f(); begin end; begin end.",
		// Vars are ahead of all Procs, and both of what stands in a Proc.
		"module m; var x: int; var y: int; var @y: int; proc x(); begin end; begin end.",
		"module m; var x: int; proc f(p, p); begin end; @proc x(); begin end; begin end.",
		"module m; var x: int; proc f(); begin zz := 1; end; @proc f(); begin end; begin end.",
		"module m; import a; var t: int; var @t: int; begin zz := a.zz; end.",
	} {
		asks(t, s, api.ErrTwice)
	}
	for _, s := range []string{
		// Neither a module's name nor an import's is a Var's or a Proc's.
		"module m; import a, b; var m: int; var a: int; proc b(); begin end; begin end.",
		"module m; import a; var x: int; var t: int; proc f(); begin end; begin end.",
		"module m; var x: int; var xx: int; var x1: int; proc f(x); begin end; proc g(x, f); var g; begin end; begin end.",
	} {
		asks(t, s, api.OK)
	}
}

// 3.1: Proc by Proc: ErrTwice, at the Proc: a parameter, or an own variable, is called as one ahead; then its Body.
func TestTwiceOwn(t *testing.T) {
	for _, s := range []string{
		"module m; @proc f(p, p); begin end; begin end.",
		"module m; @proc f(p, q, r, q); begin end; begin end.",
		"module m; @proc f(); var p, p; begin end; begin end.",
		"module m; @proc f(p); var p; begin end; begin end.",
		"module m; @proc f(p, q); var r, q; begin end; begin end.",
		"module m; proc f(p); begin write p; end; @proc g(p, p); begin end; begin end.",
		"module m; @proc f(p, p); begin zz := 1; end; begin zz := 1; end.",
		"module m; @proc f(p, p); begin end; proc g(q, q); begin end; begin end.",
		"module m; @proc f(p, p); begin end; proc g(); begin zz(); end; begin end.",
	} {
		asks(t, s, api.ErrTwice)
	}
	asks(t, "module m; proc f(); begin @zz := 1; end; proc g(q, q); begin end; begin end.", api.ErrMissing)
	asks(t, "module m; proc f(p); begin end; proc g(q); begin end; begin end.", api.OK)
	asks(t, "module m; proc f(p); var q; begin end; proc g(q); var p; begin end; begin end.", api.OK)
}

// 3.1: with a Module: ErrName: m does not import that; ErrMissing: seen has no such Sym of it.
func TestOfOthers(t *testing.T) {
	for _, s := range []string{
		"module m; begin write @a.x; end.", // it is there, but not imported
		"module m; import a; begin write @b.x[0]; end.",
		"module m; import a; begin @zz.f(); end.",
		"module m; import a; begin write @zz.t[0]; end.",
		"module m; var x: int; begin write @m.x; end.", // its own name is none
		"module m; import a; var x: int; begin write a.x + @m.x; end.",
		"module m; import a; var b: int; begin write b + @b.x; end.",
		"module m; proc f(a); begin write @a.x; end; begin end.",
		"module m; begin write @a.zz; end.", // ahead of ErrMissing, ErrArg, ErrRange
		"module m; begin write @a.t; end.",
		"module m; begin @a.f(1, 2, 3); end.",
	} {
		asks(t, s, api.ErrName)
	}
	for _, s := range []string{
		"module m; import a; begin write @a.zz; end.",
		"module m; import a; begin write @a.zz[0]; end.",
		"module m; import a; begin @a.zz(1); end.",
		"module m; import a; begin write @a.in; end.", // it is there, but not seen
		"module m; import a; begin @a.hid(); end.",
		"module m; import a; begin write @a.p; end.",
		"module m; import a, c; begin write @c.x; end.",
		"module m; import a; var zz: int; begin write zz + @a.zz; end.",
		"module m; import a, b; begin write a.t[0] + @b.t[0]; end.",
	} {
		asks(t, s, api.ErrMissing)
	}
}

// 3.1: without a Module: ErrMissing: none of these, wherever it stands.
func TestMissing(t *testing.T) {
	for _, x := range []string{
		"@zz", "@zz[1]", "@zz()", "@zz(1, 2)", "(@zz)", "-@zz", "not @zz", "@zz + 1", "1 + @zz", "1 * (2 - @zz)", "1 or 2 and @zz = 3",
		"t[@zz]", "a.t[@zz]", "f(@zz)", "h(1, @zz)", "a.h(1, @zz)", "f(t[-f(1 + @zz[0])])", "@a", "@m", "@one[0]", "@hid()",
	} {
		for _, s := range []string{
			"x := X;", "t[X] := 1;", "t[1] := X;", "return X;", "write X;", "f(X);", "h(1, X);", "a.f(X);",
			"while X do end;", "while 1 do write X; end;", "if X then end;", "if 1 then write X; end;", "if 1 then else write X; end;",
			"if 1 then elsif X then end;", "if 1 then elsif 2 then write X; end;", "if 1 then elsif 2 then else write X; end;",
			"write 1; while 1 do if 2 then else while 3 do t[X] := 4; end; end; write 5; end;",
		} {
			s := strings.Replace(s, "X", x, 1)
			asks(t, "module m; import a; var x: int; var t: array 3; proc f(p); begin end; proc h(p, q); begin end; begin "+s+" end.", api.ErrMissing)
			asks(t, "module m; import a; var x: int; var t: array 3; proc f(p); begin end; proc g(); begin "+s+" end; proc h(p, q); begin end; begin end.", api.ErrMissing)
		}
	}
	asks(t, "module m; begin @zz := 1; end.", api.ErrMissing)
	asks(t, "module m; begin @zz[0] := 1; end.", api.ErrMissing)
	asks(t, "module m; begin @zz(); end.", api.ErrMissing)
	asks(t, "module m; import a; begin @x := 1; end.", api.ErrMissing)
	asks(t, "module m; begin while 1 do @zz := 1; end; end.", api.ErrMissing)
}

// 3.1: ErrArg: an Apply is of no Proc; anything else of one; an Item is of no array; a Var of one.
func TestKinds(t *testing.T) {
	head := "module m; import a; var x: int; var t: array 3; var one: array 1; proc g(); begin end; proc f(p); begin end; "
	ways := []string{"write @N;", "write @N[0];", "@N();", "write 1 + @N(1);", "@N := 1;", "@N[0] := 1;"}
	for _, c := range []struct {
		names, fit string // by which of the ways they may be named
	}{
		{"x a.x p q", "04"}, {"t one a.t a.one", "15"}, {"g a.g", "2"}, {"f a.f", "3"},
	} {
		for _, name := range strings.Fields(c.names) {
			for i, way := range ways {
				if strings.Contains(name, ".") && i > 3 {
					continue // nobody sets what another one has
				}
				want := api.ErrArg
				s := strings.Replace(way, "N", name, 1)
				switch {
				case strings.Contains(c.fit, string(rune('0'+i))):
					want, s = api.OK, strings.Replace(s, "@", "", 1)
				case (i == 2 || i == 3) && strings.ContainsAny(c.fit, "23"):
					want = api.ErrRange
				}
				asks(t, head+"proc h(p); var q; begin "+s+" end; begin end.", want)
				if name != "p" && name != "q" {
					asks(t, head+"begin "+s+" end.", want)
				}
			}
		}
	}
}

// 3.1: ErrRange: an Apply has not as many Args as the Proc has parameters; its own variables are none of these.
func TestRange(t *testing.T) {
	args := []string{"", "1", "1, 2", "1, 2, 3"}
	for name, many := range map[string]int{"k": 0, "l": 1, "n": 2, "a.g": 0, "a.f": 1, "a.h": 2} {
		for i, l := range args {
			want, call := api.ErrRange, "@"+name+"("+l+")"
			if i == many {
				want, call = api.OK, call[1:]
			}
			for _, s := range []string{call + ";", "write 1 + " + call + ";"} {
				asks(t, "module m; import a; proc k(); var v, w; begin end; proc l(p); var v; begin end; proc n(p, q); var v, w; begin end; begin "+s+" end.", want)
			}
		}
	}
	most := strings.Repeat("1, ", api.MaxVars-1) + "1"
	head := "module m; proc f(a, b, c, d, e, f, g, h, i, j); begin end; begin "
	asks(t, head+"f("+most+"); end.", api.OK)
	asks(t, head+"@f("+most+", 1); end.", api.ErrRange)
}

// 3.1: from the left: a Set's Name and Index ahead of its Value, what names something ahead of what stands in its brackets; Procs ahead of m's Body.
func TestFromTheLeft(t *testing.T) {
	head := "module m; import a; var x: int; var t: array 3; proc f(p); begin end; begin "
	for s, want := range map[string]api.Errno{
		"@zz := a.zz;":                          api.ErrMissing,
		"@zz[a.zz] := b.x;":                     api.ErrMissing,
		"@x[zz] := zz;":                         api.ErrArg,
		"@t := zz;":                             api.ErrArg,
		"t[@zz] := t;":                          api.ErrMissing,
		"t[1] := @b.x + zz;":                    api.ErrName,
		"write @x[zz];":                         api.ErrArg,
		"write @a.zz[zz];":                      api.ErrMissing,
		"write t[t[@t]];":                       api.ErrArg,
		"@f(zz, zz);":                           api.ErrRange,
		"@x(zz);":                               api.ErrArg,
		"@b.f(zz);":                             api.ErrName,
		"f(@f(f(), zz));":                       api.ErrRange,
		"a.h(@t, zz);":                          api.ErrArg,
		"a.h(x, @zz);":                          api.ErrMissing,
		"write @zz + b.x;":                      api.ErrMissing,
		"write (x + @b.x) * zz;":                api.ErrName,
		"write 1 or @f + zz;":                   api.ErrArg,
		"write @t; write zz;":                   api.ErrArg,
		"while @zz do write t; end;":            api.ErrMissing,
		"while x do write @t; end; write zz;":   api.ErrArg,
		"if x then @x(); else write zz; end;":   api.ErrArg,
		"if @b.x then x(); else write zz; end;": api.ErrName,
		"if x then elsif @f() then write zz; else write t; end;": api.ErrRange,
		"if x then else write @f(); end; write zz;":              api.ErrRange,
		"return @zz; write t;":                                   api.ErrMissing,
	} {
		asks(t, head+s+" end.", want)
	}
	asks(t, "module m; proc f(); begin end; proc g(); begin @f := 1; end; begin zz := 1; end.", api.ErrArg)
	asks(t, "module m; proc f(); begin @f(1); end; proc g(); begin zz := 1; end; begin end.", api.ErrRange)
}

// 3.1: what seen has is taken as it is told, in whatever order: the first that is called so.
func TestSeenAsItIs(t *testing.T) {
	s := "module m; import a; begin write a.x; end."
	m := reads(t, s)
	for _, c := range []struct {
		l    []api.Sym
		want api.Errno
	}{
		{[]api.Sym{{Name: "z", Args: -1}, {Name: "x", Args: -1}, {Name: "b"}}, api.OK},
		{[]api.Sym{{Name: "x", Args: -1}, {Name: "x"}}, api.OK},
		{[]api.Sym{{Name: "x"}, {Name: "x", Args: -1}}, api.ErrArg},
		{[]api.Sym{{Name: "x", Len: 2, Args: -1}}, api.ErrArg},
		{[]api.Sym{{Name: "x", Len: -2, Args: -9}}, api.OK},
		{[]api.Sym{{Name: "y", Args: -1}, {Name: "x", Args: -1}}[:1], api.ErrMissing},
	} {
		place := strings.Index(s, "a.x")
		if c.want == api.OK {
			place = -1
		}
		told(t, s, check.Check(m, map[string][]api.Sym{"a": c.l, "zz": nil}), c.want, place)
	}
}

// P4: nothing that is handed in is written into, and the same is found again.
func TestKeeps(t *testing.T) {
	for _, s := range []string{
		"module m; import a, b; var x: int; proc f(p); var q; begin q := a.x + b.x[p]; end; begin x := f(a.h(1, 2)); end.",
		"module m; import a, b; var x: int; proc f(p); var q; begin q := a.x + b.x[p]; end; begin x := f(a.h(1)); end.",
		"module m; import b, b; begin end.",
	} {
		m, same, seen := reads(t, s), reads(t, s), others(t)
		one, two := check.Check(m, seen), check.Check(m, seen)
		if !reflect.DeepEqual(one, two) {
			t.Errorf("%s: %v, then %v", s, one, two)
		}
		if !reflect.DeepEqual(m, same) || !maps.EqualFunc(seen, others(t), slices.Equal[[]api.Sym]) {
			t.Errorf("%s: %+v, %+v were changed", s, m, seen)
		}
		if at, ok := one.(*api.At); ok {
			at.Place = -9
			if _, place := plain.Place(two); place == -9 {
				t.Errorf("%s: what was told is not the caller's", s)
			}
		}
	}
}

// P1: what Parse never told, too; and what lies much deeper than a text may.
func TestAnything(t *testing.T) {
	for code := -1; code < 9; code++ {
		x := &api.Expr{Code: code, Module: "a", Name: "n", Args: []*api.Expr{nil, {Code: code}}}
		m := api.Module{Imports: []string{"", "a"}[1:], Body: []api.Stmt{{Code: code}, {Code: code, Value: x}, {Index: &api.Expr{Code: api.Bin, Right: x}}}, Procs: []api.Proc{{}}, Vars: []api.Global{{Name: "n", Len: -1}}}
		check.Check(m, nil)
		check.Check(m, map[string][]api.Sym{"a": {{Name: "n", Args: 2}}})
		check.Check(api.Module{Name: "m", Body: m.Body, Imports: []string{""}}, map[string][]api.Sym{"": {{}}})
	}
	deep := &api.Expr{Code: api.Var, At: 7, Name: "n"}
	body := []api.Stmt{{Code: api.Write, Value: deep}}
	for range 60_000 {
		deep = &api.Expr{Code: api.Un, Op: "-", Left: deep}
		body = []api.Stmt{{Code: api.While, Value: &api.Expr{Code: api.Num}, Then: body}}
	}
	for _, m := range []api.Module{{Body: body}, {Body: []api.Stmt{{Code: api.Write, Value: deep}}}} {
		told(t, "deep within", check.Check(m, nil), api.ErrMissing, 7)
		m.Vars = []api.Global{{Name: "n"}}
		told(t, "deep within", check.Check(m, nil), api.OK, -1)
	}
}
