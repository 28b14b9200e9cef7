package sym_test

import (
	"slices"
	"strings"
	"testing"

	"marquetry/api"
	"marquetry/sym"
)

// uses asks what a module uses of another one.
func uses(t *testing.T, s, of, want string) {
	t.Helper()
	if got := sym.Used(reads(t, s), of); !slices.Equal(got, strings.Fields(want)) {
		t.Errorf("%s of %q: %v; want %s", s, of, got, want)
	}
}

// 2.1: Used: Var, Item and Apply, wherever they stand.
func TestUsedAnywhere(t *testing.T) {
	for _, x := range []string{
		"a.n", "a.n[1]", "a.n()", "a.n(1, 2)", "(a.n)", "-a.n", "not a.n", "- not - a.n",
		"a.n + 1", "1 + a.n", "1 * (2 - a.n)", "1 or 2 and a.n = 3", "t[a.n]", "b.t[a.n]", "f(a.n)", "f(1, a.n, 2)", "b.f(1, a.n)", "f(t[-f(1 + a.n[0])])",
	} {
		for _, s := range []string{
			"x := X;", "t[X] := 1;", "t[1] := X;", "return X;", "write X;", "f(X);", "f(1, X);", "b.f(X);",
			"while X do end;", "while 1 do write X; end;", "if X then end;", "if 1 then write X; end;", "if 1 then else write X; end;",
			"if 1 then elsif X then end;", "if 1 then elsif 2 then write X; end;", "if 1 then elsif 2 then else write X; end;",
			"write 1; while 1 do if 2 then else while 3 do t[X] := 4; end; end; write 5; end;",
		} {
			s := strings.Replace(s, "X", x, 1)
			uses(t, "module m; import a, b; begin "+s+" end.", "a", "n")
			uses(t, "module m; import a, b; proc f(n); var t; begin "+s+" end; begin write 1; end.", "a", "n")
			uses(t, "module m; import a, b; proc f(n); begin end; proc g*(); begin "+s+" end; proc h(); begin end; begin end.", "a", "n")
		}
	}
	uses(t, "module m; import a; begin a.n(); end.", "a", "n")
	uses(t, "module m; import a; begin a.n(a.o[1]); end.", "a", "n o")
}

// 2.1: Used: each once, byte by byte, of all bodies together.
func TestUsedInOrder(t *testing.T) {
	uses(t, "module m; import a; proc f(); begin write a.z + a.b; end; proc g(); begin a.c(a.z, a.b[a.a10]); end; begin x := a.a2; t[a.a] := a.z() + a.a1b; write a.a1; end.", "a", "a a1 a10 a1b a2 b c z")
	uses(t, "module m; import a; begin write a.x; write a.x[1]; a.x(); write a.x + a.x; end.", "a", "x")
}

// 2.1: Used: of that module alone, imported or not; of no name none.
func TestUsedOfOthers(t *testing.T) {
	s := "module m; import a, ab; var x: int; proc f(a); begin return a + f(x); end; begin write ab.y + a.x; write b.z; x := m.w; a := b; f(t[n]); end."
	for of, want := range map[string]string{"a": "x", "ab": "y", "b": "z", "m": "w", "": "", "x": "", "f": "", "zz": "", "a.x": "", "A": "", "a ": ""} {
		uses(t, s, of, want)
	}
	uses(t, "module m; import a; begin end.", "a", "")
	uses(t, "module m; import a; begin a := 1; a[2] := 3; write a + a[1] + a(); end.", "a", "")
}

// 2.1: Used, of drawn modules: what stands behind `of` and `.` in their texts.
func TestUsedOfDrawn(t *testing.T) {
	d := die(2)
	found := 0
	drawn(&d, 2000, func(s string, m api.Module) {
		for _, of := range []string{"a", "b", "ab", "x", "zz"} {
			var want []string
			for _, word := range strings.FieldsFunc(s, func(r rune) bool { return !strings.ContainsRune("abcdefghijklmnopqrstuvwxyz0123456789.", r) }) {
				if name, ok := strings.CutPrefix(word, of+"."); ok {
					want = append(want, name)
				}
			}
			slices.Sort(want)
			found += len(want)
			uses(t, s, of, strings.Join(slices.Compact(want), " "))
		}
		if got := sym.Used(m, ""); len(got) > 0 {
			t.Fatalf("%s of no name: %v", s, got)
		}
	})
	if found < 5000 {
		t.Errorf("only %d were found", found)
	}
}

// 2.1: Of, Find and Needs, of drawn modules, hold together.
func TestSymsOfDrawn(t *testing.T) {
	d := die(3)
	drawn(&d, 2000, func(s string, m api.Module) {
		l := sym.Of(m)
		if !slices.IsSortedFunc(l, func(a, b api.Sym) int { return strings.Compare(a.Name, b.Name) }) {
			t.Fatalf("%s: %+v", s, l)
		}
		if stars := strings.Count(s, "*"); len(l) != stars {
			t.Fatalf("%s: %+v; want %d", s, l, stars)
		}
		whole := ""
		for i, x := range l {
			first := sym.Find(l, x.Name)
			if first > i || first < 0 || l[first].Name != x.Name || first > 0 && l[first-1].Name == x.Name {
				t.Fatalf("%s: %q is found at %d", s, x.Name, first)
			}
			if got, want := sym.Needs(l, []string{x.Name, "zz"}), sym.Print(l[first:first+1])+"none zz\n"; got != want {
				t.Fatalf("%s: %q; want %q", s, got, want)
			}
			whole += sym.Print(l[i : i+1])
		}
		if got := sym.Print(l); got != whole {
			t.Fatalf("%s: %q; want %q", s, got, whole)
		}
	})
}

// P1: what Parse never told, too; and what lies much deeper than a text may.
func TestUsedOfAnything(t *testing.T) {
	for code := -1; code < 9; code++ {
		x := &api.Expr{Code: code, Module: "a", Name: "n", Args: []*api.Expr{nil, {Code: code}}}
		m := api.Module{Body: []api.Stmt{{Code: code}, {Code: code, Value: x}, {Index: &api.Expr{Code: api.Bin, Right: x}}}, Procs: []api.Proc{{}}, Vars: []api.Global{{Seen: true, Len: -1}}}
		want := code == api.Var || code == api.Item || code == api.Apply
		if got := sym.Used(m, "a"); slices.Contains(got, "n") != want || len(got) > 1 {
			t.Errorf("%d: %v", code, got)
		}
		sym.Print(sym.Of(m))
	}
	deep := &api.Expr{Code: api.Var, Module: "a", Name: "n"}
	body := []api.Stmt{{Code: api.Write, Value: deep}}
	for range 60_000 {
		deep = &api.Expr{Code: api.Un, Op: "-", Left: deep}
		body = []api.Stmt{{Code: api.While, Value: &api.Expr{Code: api.Num}, Then: body}}
	}
	for _, m := range []api.Module{{Body: body}, {Body: []api.Stmt{{Code: api.Write, Value: deep}}}} {
		if got := sym.Used(m, "a"); !slices.Equal(got, []string{"n"}) {
			t.Errorf("deep within: %v", got)
		}
	}
}
