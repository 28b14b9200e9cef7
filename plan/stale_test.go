package plan_test

import (
	"fmt"
	"maps"
	"reflect"
	"slices"
	"strings"
	"testing"
	"time"

	"marquetry/api"
	"marquetry/plan"
	"marquetry/sym"
)

// user is a module b that imports a, and does that.
func user(body string) string { return "module b; import a; var k: int; begin " + body + " end." }

// Modules a, of which others see as much as in the first one, or not.
const (
	aSeen  = "module a; var x*: int; var t*: array 3; var own: int; proc f*(p); begin return p; end; proc g*(); begin return x; end; begin end."
	aSame  = "module a; var own2: array 2; var t*: array 3; var x*: int; proc g*(); begin return 7; end; proc f*(q); var l; begin l := q; return l + 1; end; begin write 1; end."
	aMore  = "module a; var x*: int; var t*: array 3; var y*: int; proc f*(p); begin return p; end; proc g*(); begin end; proc h*(); begin end; begin end."
	aEmpty = "module a; begin end."
)

// 9.1: Stale: names of now that are in changed, byte by byte, each once.
func TestStaleChanged(t *testing.T) {
	all := importing(t, "c", "a", "b", "a10", "a2", "d: a b c")
	isStale(t, "none", all, all, "", "")
	isStale(t, "one", all, all, "b", "b")
	isStale(t, "some", all, all, "c a2 a10 a", "a a10 a2 c")
	isStale(t, "twice", all, all, "c b c b c", "b c")
	isStale(t, "who is not there", all, all, "zz b yy", "b")
	isStale(t, "who was not there", nil, all, "b", "b")
	isStale(t, "who was not there, and is not told to be changed", nil, all, "", "")
	isStale(t, "who is not there any more", all, nil, "a b c", "")
	isStale(t, "nothing at all", nil, nil, "a", "")
	isStale(t, "a name that is empty", nil, map[string]api.Module{"": {}}, "x", "")
	if got := plan.Stale(nil, map[string]api.Module{"": {}, "\xff": {}, "z": {}}, []string{"\xff", "", "z"}); !slices.Equal(got, []string{"", "z", "\xff"}) {
		t.Errorf("%q; want them byte by byte", got)
	}
}

// 9.1: Stale: who uses what is seen otherwise of one that was changed; and nobody else.
func TestStaleUsers(t *testing.T) {
	for _, c := range []struct {
		what, body, was, now string
		want                 bool
	}{
		{"as it was", "write a.x + a.t[0] + a.f(1) + a.g();", aSeen, aSeen, false},
		{"within, and in another order", "write a.x + a.t[0] + a.f(1) + a.g();", aSeen, aSame, false},
		{"more is seen", "write a.x + a.t[0] + a.f(1) + a.g();", aSeen, aMore, false},
		{"less is seen, that it does not use", "write a.x + a.t[0] + a.f(1) + a.g();", aMore, aSeen, false},
		{"what it did not find is there", "write a.y;", aSeen, aMore, true},
		{"what it uses is gone", "a.h();", aMore, aSeen, true},
		{"none before, none now", "write a.zz;", aSeen, aMore, false},
		{"none before, none now, and one that is seen otherwise", "write a.zz; write a.y;", aSeen, aMore, true},
		{"it uses nothing", "write 1;", aSeen, aEmpty, false},
		{"what it names is its own", "k := k;", "module a; var k*: int; begin end.", aEmpty, false},
		{"what it names is another one's", "write c.x;", aSeen, aEmpty, false},
		{"not seen any more", "write a.x;", aSeen, "module a; var x: int; begin end.", true},
		{"seen now", "write a.x;", "module a; var x: int; begin end.", aSeen, true},
		{"a number, an array", "write a.x;", aSeen, "module a; var x*: array 1; begin end.", true},
		{"an array, a longer one", "write a.t[0];", aSeen, "module a; var t*: array 4; begin end.", true},
		{"an array as long", "write a.t[0];", aSeen, "module a; var x*: array 3; var t*: array 3; begin end.", false},
		{"a variable, a procedure", "write a.x;", aSeen, "module a; proc x*(); begin end; begin end.", true},
		{"a procedure, of more", "a.f(1);", aSeen, "module a; proc f*(p, q); begin end; begin end.", true},
		{"a procedure, of as many", "a.f(1);", aSeen, "module a; proc f*(q); var p; begin write q; end; begin end.", false},
		{"within others", "if k then while k do k := -(1 + k * a.f(k)); end; end;", aSeen, aEmpty, true},
		{"in an index", "write a.t[a.x];", aSeen, "module a; var t*: array 3; begin end.", true},
		{"of those called alike the first one", "write a.x;", aSeen, "module a; var x*: int; var x*: array 2; proc x*(); begin end; begin end.", false},
		{"of those called alike the first one is another one", "write a.x;", aSeen, "module a; var x*: array 2; var x*: int; begin end.", true},
	} {
		was, now := modules(t, c.was, user(c.body)), modules(t, c.now, user(c.body))
		want := "a"
		if c.want {
			want = "a b"
		}
		isStale(t, c.what, was, now, "a", want)
		isStale(t, c.what+", but it is not told to be changed", was, now, "c", "")
		isStale(t, c.what+", and it is changed itself", was, now, "b", "b")
	}
}

// 9.1: Stale: of what is not there: no Syms.
func TestStaleNotThere(t *testing.T) {
	uses, usesNone, misses := user("write a.x;"), user("write 1;"), user("write a.zz;")
	for _, c := range []struct{ what, user, want string }{{"uses", uses, "b"}, {"uses none", usesNone, ""}, {"uses what was never", misses, ""}} {
		isStale(t, c.what+", dropped", modules(t, aSeen, c.user), modules(t, c.user), "a", c.want)
		isStale(t, c.what+", new", modules(t, c.user), modules(t, aSeen, c.user), "a", strings.TrimSpace("a "+c.want))
		isStale(t, c.what+", never", modules(t, c.user), modules(t, c.user), "a", "")
		isStale(t, c.what+", nothing was", nil, modules(t, aSeen, c.user), "a", strings.TrimSpace("a "+c.want))
		isStale(t, c.what+", gone itself", modules(t, aSeen, c.user), modules(t, aEmpty), "a", "a")
	}
}

// 9.1: Stale: what its module uses now counts, and what it imports now.
func TestStaleAsItIsNow(t *testing.T) {
	x, y, none := user("write a.x;"), user("write a.y;"), "module b; begin write 1; end."
	was, now := "module a; var x*: int; begin end.", "module a; var x*: int; var y*: int; begin end."
	isStale(t, "y now", modules(t, was, x), modules(t, now, y), "a", "a b")
	isStale(t, "x now", modules(t, was, y), modules(t, now, x), "a", "a")
	isStale(t, "none now", modules(t, was, y), modules(t, now, none), "a", "a")
	isStale(t, "it was not there", modules(t, was), modules(t, now, y), "a", "a b")
	isStale(t, "it names it, but does not import it", modules(t, was), modules(t, now, "module b; import c; begin write a.y; end."), "a", "a")
}

// 9.1: Stale: any import of several; each by itself; twice; its own.
func TestStaleImports(t *testing.T) {
	c := func(seen string) string { return "module c; var x" + seen + ": int; begin end." }
	b := "module b; import a, zz, c, c; begin write a.x + c.x; end."
	was := modules(t, aSeen, b, c("*"))
	isStale(t, "the last one", was, modules(t, aSeen, b, c("")), "c", "b c")
	isStale(t, "both are changed, one is otherwise", was, modules(t, aSame, b, c("")), "a c", "a b c")
	isStale(t, "both are changed, none is otherwise", was, modules(t, aSame, b, c("*")), "a c", "a c")
	isStale(t, "one is otherwise, the other one is changed", was, modules(t, aSame, b, c("")), "a", "a")
	isStale(t, "what is otherwise is used of another one", modules(t, aSeen, b, c("*")), modules(t, aEmpty, "module b; import a, c; begin write c.x; end.", c("*")), "a c", "a c")
	own := "module a; import a; var x*: int; begin write a.x; end."
	isStale(t, "its own", modules(t, aEmpty), modules(t, own), "a", "a")
	isStale(t, "its own, of one that is not changed", modules(t, aEmpty), modules(t, own), "b", "")
}

// 9.1: Stale: who uses one that is stale alone is not: what others see of that is as it was.
func TestStaleNoFurther(t *testing.T) {
	b, c, d := "module b; import a; var x*: int; begin x := a.x; end.", "module c; import b; begin write b.x; end.", "module d; import c, a; begin a.f(1); end."
	was := modules(t, aSeen, b, c, d)
	isStale(t, "what b uses", was, modules(t, "module a; var x*: array 2; proc f*(p); begin end; begin end.", b, c, d), "a", "a b")
	isStale(t, "what d uses", was, modules(t, "module a; var x*: int; begin end.", b, c, d), "a", "a d")
	isStale(t, "both", was, modules(t, aEmpty, b, c, d), "a", "a b d")
	isStale(t, "none", was, modules(t, aMore, b, c, d), "a", "a")
}

// 9.1: Stale: a name is that in the maps, whatever the module is called.
func TestStaleByItsNameThere(t *testing.T) {
	seen, empty := reads(t, strings.Replace(aSeen, "module a", "module q", 1)), reads(t, aEmpty)
	uses := reads(t, user("write a.x;"))
	was, now := map[string]api.Module{"a": seen, "z": uses}, map[string]api.Module{"a": empty, "z": uses}
	isStale(t, "by a", was, now, "a", "a z")
	isStale(t, "by what it is called itself", was, now, "q b", "")
}

// Modules that go round are stale as all others are.
func TestStaleRound(t *testing.T) {
	a := func(seen string) string { return "module a; import b; var x" + seen + ": int; begin write b.x; end." }
	b := "module b; import a; var x*: int; begin write a.x; end."
	isStale(t, "round", modules(t, a("*"), b), modules(t, a(""), b), "a", "a b")
	isStale(t, "round", modules(t, a("*"), b), modules(t, a("*"), b), "a", "a")
	isStale(t, "round", modules(t, a("*"), b), modules(t, a("*"), b), "b", "b")
}

// P4: nothing that is handed in is written into, not behind a list's length either; the answer is the caller's.
func TestStaleKeeps(t *testing.T) {
	texts := []string{user("write a.x;"), "module c; import b, a; begin write a.t[1]; end."}
	was, now := modules(t, append(texts, aSeen)...), modules(t, append(texts, aEmpty)...)
	wasCopy, nowCopy := modules(t, append(texts, aSeen)...), modules(t, append(texts, aEmpty)...)
	changed := []string{"zz", "a", "a", "b", "c"}
	for range 50 {
		l := plan.Stale(was, now, changed[:3])
		if !slices.Equal(l, []string{"a", "b", "c"}) {
			t.Fatalf("%v; want a, b, c", l)
		}
		clear(l[:cap(l)])
	}
	if !slices.Equal(changed, []string{"zz", "a", "a", "b", "c"}) {
		t.Errorf("changed is %v now", changed)
	}
	if !reflect.DeepEqual(was, wasCopy) || !reflect.DeepEqual(now, nowCopy) {
		t.Errorf("modules were written into")
	}
}

// naiveStale is a second reading of 9.1.
func naiveStale(was, now map[string]api.Module, changed []string) []string {
	syms := func(m map[string]api.Module, name string) []api.Sym {
		if x, there := m[name]; there {
			return sym.Of(x)
		}
		return nil
	}
	var l []string
	for name, m := range now {
		is := slices.Contains(changed, name)
		for _, of := range m.Imports {
			used := sym.Used(m, of)
			is = is || slices.Contains(changed, of) && sym.Needs(syms(was, of), used) != sym.Needs(syms(now, of), used)
		}
		if is {
			l = append(l, name)
		}
	}
	slices.Sort(l)
	return l
}

// drawnModule is a module of a name that imports some of a to e, and uses some of those.
func drawnModule(t *testing.T, d *die, name string) api.Module {
	t.Helper()
	names := []string{"a", "b", "c", "d", "e"}
	l := names[d.n(5):]
	l = l[:d.n(len(l)+1)]
	s := "module " + name + "; "
	if len(l) > 0 {
		s += "import " + strings.Join(l, ", ") + "; "
	}
	s += "var x" + d.of("", "*", "*") + ": " + d.of("int", "array 2", "array 3") + "; "
	if d.n(3) > 0 {
		s += "proc f" + d.of("", "*", "*") + "(" + d.of("", "p", "p, q") + "); begin return " + d.of(names...) + ".x; end; "
	}
	s += "begin "
	for range 1 + d.n(4) {
		of := d.of(slices.Concat(l, l, []string{d.of(names...)})...)
		s += "write " + d.of(of+".x", of+".f()", "-"+of+".x[1]", of+".y") + "; "
	}
	return reads(t, s+"end.")
}

// 9.1: Stale: of drawn modules, of which some are as they were, what a second reading tells.
func TestStaleDrawn(t *testing.T) {
	d := die(7)
	byUse := 0
	for range 5000 {
		was, now := map[string]api.Module{}, map[string]api.Module{}
		for _, name := range []string{"a", "b", "c", "d", "e"} {
			if d.n(6) > 0 {
				was[name] = drawnModule(t, &d, name)
				now[name] = was[name]
			}
			if d.n(3) == 0 {
				now[name] = drawnModule(t, &d, name)
			}
			if d.n(8) == 0 {
				delete(now, name)
			}
		}
		changed := []string{}
		for range d.n(5) {
			changed = append(changed, d.of("a", "b", "c", "d", "e", "zz"))
		}
		got, want := plan.Stale(was, now, changed), naiveStale(was, now, changed)
		if !slices.Equal(got, want) {
			t.Fatalf("%v, %v, %v: %v; want %v", was, now, changed, got, want)
		}
		if slices.ContainsFunc(got, func(name string) bool { return !slices.Contains(changed, name) }) {
			byUse++
		}
	}
	if byUse < 500 {
		t.Errorf("%d of 5000 have one that is stale by what it uses: they are drawn badly", byUse)
	}
}

// Limits: many modules, of which all are changed, or use one that is.
func TestStaleMany(t *testing.T) {
	const many = 100_000
	uses := reads(t, user("write a.x;"))
	was, now := map[string]api.Module{"a": reads(t, aSeen)}, map[string]api.Module{"a": reads(t, aEmpty)}
	for i := range many {
		now[fmt.Sprintf("m%06d", i)] = uses
	}
	all := slices.Sorted(maps.Keys(now))
	often := slices.Repeat([]string{"a"}, many)
	began := time.Now()
	for what, changed := range map[string][]string{"one": {"a"}, "one, many times": often, "all": all} {
		if got := plan.Stale(was, now, changed); !slices.Equal(got, all) {
			t.Errorf("%s: %d of %d", what, len(got), len(all))
		}
	}
	if took := time.Since(began); took > 10*time.Second {
		t.Errorf("it took %v", took)
	}
}
