package plan_test

import (
	"fmt"
	"maps"
	"reflect"
	"slices"
	"testing"
	"time"

	"marquetry/api"
	"marquetry/plan"
)

// 9.1: Order: again and again the first name all of whose imports are told.
func TestOrder(t *testing.T) {
	for _, c := range []struct {
		lines []string
		want  string
	}{
		{nil, ""},
		{[]string{"m"}, "m"},
		{[]string{"c", "a", "b"}, "a b c"},
		{[]string{"a: b", "b: c", "c"}, "c b a"},
		{[]string{"a", "b: a", "c: b"}, "a b c"},
		{[]string{"a: d", "b", "c", "d"}, "b c d a"},
		{[]string{"a: z", "b", "y", "z"}, "b y z a"},
		{[]string{"a: c", "b", "c: b", "d"}, "b c a d"},        // who may come comes at once, ahead of those behind it by name
		{[]string{"a: c d", "b: c", "c", "d"}, "c b d a"},      // behind all that it imports, not behind one
		{[]string{"a: b c d", "b: d", "c: d", "d"}, "d b c a"}, // two ways from one to the other
		{[]string{"a: e", "b: d", "c", "d", "e"}, "c d b e a"}, // of several that wait
		{[]string{"e: a b c d", "d: a", "c: d", "b: c", "a"}, "a d c b e"},
	} {
		inOrder(t, fmt.Sprint(c.lines), importing(t, c.lines...), c.want)
	}
	inOrder(t, "no map", nil, "")
}

// 9.1: Order: byte by byte.
func TestOrderByBytes(t *testing.T) {
	inOrder(t, "digits", importing(t, "a2", "a10", "a1", "b", "ab", "a", "a1b", "aa"), "a a1 a10 a1b a2 aa ab b")
	m := map[string]api.Module{}
	for _, name := range []string{"a", "B", "\xff", "\u00e9", "", "_", "10", "9", "\x00"} {
		m[name] = api.Module{Name: name}
	}
	l, err := plan.Order(m)
	if want := []string{"", "\x00", "10", "9", "B", "_", "a", "\u00e9", "\xff"}; !slices.Equal(l, want) || err != nil {
		t.Errorf("%q, %v; want %q", l, err, want)
	}
}

// 9.1: Order: imports that are not in m are not waited for.
func TestOrderWithoutSome(t *testing.T) {
	inOrder(t, "one", importing(t, "a: zz"), "a")
	inOrder(t, "some", importing(t, "a: zz c yy", "b: zz", "c: xx"), "b c a")
	inOrder(t, "all would go round, if it were there", importing(t, "a: x", "b: x a"), "a b")
}

// 9.1: Order: an import that stands twice is one.
func TestOrderTwice(t *testing.T) {
	inOrder(t, "twice", importing(t, "a: c c", "b", "c: b b b"), "b c a")
	goesRound(t, "twice, and round", importing(t, "a: c c", "b", "c: b a b"))
}

// 9.1: Order: who has a name in m is called so there, whatever the module is called; a module that Parse refused has none.
func TestOrderByItsNameThere(t *testing.T) {
	named := func(imports ...string) api.Module { return api.Module{Name: "other", Imports: imports} }
	inOrder(t, "names of m", map[string]api.Module{"a": named("b"), "b": named("other"), "c": named("a")}, "b a c")
	inOrder(t, "of zero values", map[string]api.Module{"b": {}, "a": {}}, "a b")
	goesRound(t, "names of m", map[string]api.Module{"a": named("other"), "other": named("a")})
}

// 9.1: ErrCycle: there are names left, and none may come; nothing is told beside it.
func TestOrderCycle(t *testing.T) {
	for _, lines := range [][]string{
		{"a: a"},
		{"a: b", "b: a"},
		{"a: b", "b: c", "c: a"},
		{"a", "b: c", "c: b", "d: a"},
		{"a", "b: a", "c: a b c"},
		{"a: b", "b: c", "c: d", "d: c"}, // who is behind those that go round can't come either
		{"a: b", "b: zz c", "c: a zz"},
		{"z: z", "a", "b", "c"},
	} {
		goesRound(t, fmt.Sprint(lines), importing(t, lines...))
	}
}

// P4: m is not written into, and the answer is the caller's, the same each time.
func TestOrderKeeps(t *testing.T) {
	m := importing(t, "a: e", "b: d", "c: a a", "d: zz", "e", "f: e d c")
	was := map[string]api.Module{}
	for name, x := range m {
		x.Imports = slices.Clone(x.Imports)
		was[name] = x
	}
	for range 50 {
		l, err := plan.Order(m)
		if want := []string{"d", "b", "e", "a", "c", "f"}; !slices.Equal(l, want) || err != nil {
			t.Fatalf("%v, %v; want %v", l, err, want)
		}
		clear(l[:cap(l)])
	}
	if !reflect.DeepEqual(m, was) {
		t.Errorf("%v; it was %v", m, was)
	}
}

// naiveOrder is a second reading of 9.1.
func naiveOrder(m map[string]api.Module) ([]string, error) {
	var told []string
	for len(told) < len(m) {
		may := slices.DeleteFunc(slices.Sorted(maps.Keys(m)), func(name string) bool {
			return slices.Contains(told, name) || slices.ContainsFunc(m[name].Imports, func(of string) bool {
				_, there := m[of]
				return there && !slices.Contains(told, of)
			})
		})
		if len(may) == 0 {
			return nil, api.ErrCycle
		}
		told = append(told, may[0])
	}
	return told, nil
}

// 9.1: Order: of drawn modules what a second reading tells.
func TestOrderDrawn(t *testing.T) {
	d := die(1)
	round := 0
	for range 5000 {
		m := map[string]api.Module{}
		many := 1 + d.n(12)
		for i := range many {
			x := api.Module{}
			for range d.n(4) {
				k := d.n(many + 2)
				if i != k && d.n(8) > 0 {
					k = max(i, k) // mostly of those behind: drawn at will, nearly all go round
				}
				if i != k || d.n(30) == 0 {
					x.Imports = append(x.Imports, fmt.Sprint("m", k*7%11, k))
				}
			}
			x.Name = fmt.Sprint("m", i*7%11, i)
			m[x.Name] = x
		}
		got, err := plan.Order(m)
		want, wantErr := naiveOrder(m)
		if !slices.Equal(got, want) || err != wantErr {
			t.Fatalf("%v: %v, %v; want %v, %v", m, got, err, want, wantErr)
		}
		if err != nil {
			round++
		}
	}
	if round < 500 || round > 4500 {
		t.Errorf("%d of 5000 go round: they are drawn badly", round)
	}
}

// Limits: many modules, of which each waits for the next one, or all for one.
func TestOrderMany(t *testing.T) {
	const many = 100_000
	name := func(i int) string { return fmt.Sprintf("m%06d", i) }
	chain, star := map[string]api.Module{}, map[string]api.Module{}
	for i := range many {
		chain[name(i)] = api.Module{Name: name(i), Imports: []string{name(i + 1)}}
		star[name(i)] = api.Module{Name: name(i), Imports: []string{name(many)}}
	}
	star[name(many)] = api.Module{Name: name(many)}
	began := time.Now()
	l, err := plan.Order(chain)
	if err != nil || len(l) != many || l[0] != name(many-1) || l[many-1] != name(0) {
		t.Errorf("each behind the next one: %d, %v", len(l), err)
	}
	l, err = plan.Order(star)
	if err != nil || len(l) != many+1 || l[0] != name(many) || !slices.IsSorted(l[1:]) {
		t.Errorf("all behind one: %d, %v", len(l), err)
	}
	star[name(many)] = api.Module{Name: name(many), Imports: []string{name(0)}}
	goesRound(t, "all behind one, that is behind one of them", star)
	if took := time.Since(began); took > 10*time.Second {
		t.Errorf("it took %v", took)
	}
}
