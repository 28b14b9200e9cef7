package shop_test

import (
	"errors"
	"fmt"
	"slices"
	"strings"
	"testing"

	"marquetry/api"
	"marquetry/obj"
	"marquetry/plain"
	"marquetry/shop"
	"marquetry/sym"
	"marquetry/tree"
)

// Modules that are used again and again: a, and b that uses of it x, t and f.
const (
	textA = "module a; var x*: int; var t*: array 3; var own: int; proc f*(p); begin own := own + 1; return p + own; end; begin x := 5; t[1] := 6; end."
	textB = "module b; import a; var x*: int; begin x := a.x + a.t[1] + a.f(1); write x; end."
)

// reads asks that a text is a module.
func reads(t *testing.T, s string) api.Module {
	t.Helper()
	m, err := tree.Parse(s)
	if err != nil {
		t.Fatalf("%q: %v; want none", s, err)
	}
	return m
}

// wrong asks for an error, as they all are, and for its place (below 0: none).
func wrong(t *testing.T, what string, err error, want api.Errno, wantPlace int) {
	t.Helper()
	got, place := plain.Place(err)
	if got != want || place != wantPlace {
		t.Errorf("%s: error %d at %d; want %d at %d", what, got, place, want, wantPlace)
	}
	var e api.Errno
	if err != nil && !errors.As(err, &e) {
		t.Errorf("%s: %#v is no error as they all are", what, err)
	}
}

// puts puts sources there, of which none is refused.
func puts(t *testing.T, s *shop.Shop, texts ...string) {
	t.Helper()
	for _, text := range texts {
		want := reads(t, text).Name
		if name, err := s.Put(text); name != want || err != nil {
			t.Fatalf("%s: %q, %v; want %q", text, name, err, want)
		}
	}
}

// refuses asks that a text is not put, and that nothing is told beside that.
func refuses(t *testing.T, s *shop.Shop, text string, want api.Errno, wantPlace int) {
	t.Helper()
	name, err := s.Put(text)
	wrong(t, text, err, want, wantPlace)
	if name != "" {
		t.Errorf("%s: %q beside an error", text, name)
	}
}

// drops drops sources that are there.
func drops(t *testing.T, s *shop.Shop, names ...string) {
	t.Helper()
	for _, name := range names {
		if err := s.Drop(name); err != nil {
			t.Fatalf("drop %s: %v; want none", name, err)
		}
	}
}

// builds builds all, of which nothing is wrong, and asks which were built anew: names with a blank between.
func builds(t *testing.T, s *shop.Shop, what, want string) {
	t.Helper()
	l, in, err := s.Build()
	if got := strings.Join(l, " "); got != want || in != "" || err != nil {
		t.Errorf("%s: %q, %q, %v; want %q", what, got, in, err, want)
	}
}

// fails asks that nothing is built, and in which source there is which error; what was built is as it was.
func fails(t *testing.T, s *shop.Shop, what, wantIn string, want api.Errno, wantPlace int) {
	t.Helper()
	was := all(t, s)
	l, in, err := s.Build()
	wrong(t, what, err, want, wantPlace)
	if l != nil || in != wantIn {
		t.Errorf("%s: %q, in %q; want none, in %q", what, l, in, wantIn)
	}
	if now := all(t, s); now != was {
		t.Errorf("%s: %s\nis built now; it was\n%s", what, now, was)
	}
}

// has asks what is built: names with a blank between.
func has(t *testing.T, s *shop.Shop, what, want string) {
	t.Helper()
	if got := strings.Join(s.Names(), " "); got != want {
		t.Errorf("%s: %q is built; want %q", what, got, want)
	}
}

// object is what is built of a source.
func object(t *testing.T, s *shop.Shop, name string) *api.Object {
	t.Helper()
	o, err := s.Object(name)
	if err != nil || !obj.Right(o) {
		t.Fatalf("%s: %+v, %v; want one that is right", name, o, err)
	}
	return o
}

// hasNot asks that nothing is built of a source.
func hasNot(t *testing.T, s *shop.Shop, what string, names ...string) {
	t.Helper()
	for _, name := range names {
		o, err := s.Object(name)
		wrong(t, what+": "+name, err, api.ErrMissing, -1)
		if o != nil {
			t.Errorf("%s: %s: %+v beside an error", what, name, o)
		}
	}
}

// all is all that is built, as a text: names, and their objects.
func all(t *testing.T, s *shop.Shop) string {
	t.Helper()
	text := ""
	for _, name := range s.Names() {
		text += fmt.Sprintf("%s %+v\n", name, *object(t, s, name))
	}
	return text
}

// isOf asks that an object is, but for its code, what 5.1 tells of a module, among those.
func isOf(t *testing.T, o *api.Object, m api.Module, among map[string]api.Module) {
	t.Helper()
	vars := slices.Clone(m.Vars)
	for i := range vars {
		vars[i].At = 0
	}
	var names []string
	for _, c := range m.Procs {
		names = append(names, c.Name)
	}
	if o.Name != m.Name || !slices.Equal(o.Syms, sym.Of(m)) || !slices.Equal(o.Vars, vars) || !slices.Equal(o.Names, names) || len(o.Uses) != len(m.Imports) {
		t.Fatalf("%s\n%+v is not of it", tree.Print(m), o)
	}
	for i, u := range o.Uses {
		used := sym.Used(m, u.Name)
		if u.Name != m.Imports[i] || !slices.Equal(u.Names, used) || u.Need != sym.Needs(sym.Of(among[u.Name]), used) {
			t.Fatalf("%s\n%+v is not what it uses", tree.Print(m), u)
		}
	}
}

// shown is how something ended, and what it told: the way's name, and the numbers.
func shown(e api.End) string {
	ways := []string{"nothing", "done", "zero", "bounds", "deep", "fuel", "full", "stack", "fault"}
	return strings.TrimSpace(ways[e.Way] + " " + strings.Trim(fmt.Sprint(e.Out), "[]"))
}

// die: numbers that look drawn, the same each time.
type die uint64

func (d *die) n(most int) int {
	*d = *d*6364136223846793005 + 1442695040888963407
	return int(uint64(*d>>33) % uint64(most))
}

func (d *die) of(l ...string) string { return l[d.n(len(l))] }
