package check_test

import (
	"errors"
	"strings"
	"testing"

	"marquetry/api"
	"marquetry/check"
	"marquetry/plain"
	"marquetry/sym"
	"marquetry/tree"
)

// reads asks that a text is a module.
func reads(t *testing.T, s string) api.Module {
	t.Helper()
	m, err := tree.Parse(s)
	if err != nil {
		t.Fatalf("%q: %v; want none", s, err)
	}
	return m
}

// others: what others see of three modules: a of everything, b of nothing but x, c of nothing at all.
func others(t *testing.T) map[string][]api.Sym {
	t.Helper()
	seen := map[string][]api.Sym{}
	for _, s := range []string{
		"module a; var x*: int; var t*: array 3; var one*: array 1; var in: int; proc f*(p); begin end; proc g*(); begin end; proc h*(p, q); var r; begin end; proc hid(); begin end; begin end.",
		"module b; var x*: array 2; begin end.",
		"module c; var x: int; begin end.",
	} {
		m := reads(t, s)
		seen[m.Name] = sym.Of(m)
	}
	return seen
}

// asks asks what is found in a text, in which a @ marks the place of it (none: it has no place).
func asks(t *testing.T, s string, want api.Errno) {
	t.Helper()
	place := strings.Index(s, "@")
	if strings.Count(s, "@") > 1 {
		t.Fatalf("%s: two places", s)
	}
	told(t, s, check.Check(reads(t, strings.Replace(s, "@", "", 1)), others(t)), want, place)
}

// told holds what was found against what is wanted, and asks that it is an error as they all are.
func told(t *testing.T, s string, err error, want api.Errno, wantPlace int) {
	t.Helper()
	got, place := plain.Place(err)
	if got != want || place != wantPlace {
		t.Errorf("%s: error %d at %d; want %d at %d", s, got, place, want, wantPlace)
	}
	var e api.Errno
	if (err == nil) != (want == api.OK) || err != nil && !errors.As(err, &e) {
		t.Errorf("%s: %#v is no error as they all are", s, err)
	}
}

// die: numbers that look drawn, the same each time.
type die uint64

func (d *die) n(most int) int {
	*d = *d*6364136223846793005 + 1442695040888963407
	return int(uint64(*d>>33) % uint64(most))
}

func (d *die) of(l ...string) string { return l[d.n(len(l))] }
