package code_test

import (
	"errors"
	"fmt"
	"strings"
	"testing"

	"marquetry/api"
	"marquetry/code"
	"marquetry/obj"
	"marquetry/plain"
	"marquetry/sym"
	"marquetry/tree"
)

// reads asks that a text is a module.
func reads(t *testing.T, s string) api.Module {
	t.Helper()
	m, err := tree.Parse(s)
	if err != nil {
		t.Fatalf("%q: %v; want none", s, err)
	}
	return m
}

// parses says whether a text is a module.
func parses(s string) bool {
	_, err := tree.Parse(s)
	return err == nil
}

// seenOf is what others see of modules.
func seenOf(t *testing.T, texts ...string) map[string][]api.Sym {
	t.Helper()
	seen := map[string][]api.Sym{}
	for _, s := range texts {
		m := reads(t, s)
		seen[m.Name] = sym.Of(m)
	}
	return seen
}

// compiles asks that a module is compiled, into an object that is right.
func compiles(t *testing.T, m api.Module, seen map[string][]api.Sym) *api.Object {
	t.Helper()
	o, err := code.Compile(m, seen)
	if err != nil || !obj.Right(o) {
		t.Fatalf("%s\n%+v, %v; want one that is right", tree.Print(m), o, err)
	}
	return o
}

// refuses asks for an error, as they all are, its place (below 0: none), and for no object beside it.
func refuses(t *testing.T, m api.Module, seen map[string][]api.Sym, want api.Errno, wantPlace int) {
	t.Helper()
	o, err := code.Compile(m, seen)
	got, place := plain.Place(err)
	if got != want || place != wantPlace || o != nil {
		t.Errorf("%+v: error %d at %d, %v; want %d at %d", m, got, place, o, want, wantPlace)
	}
	var e api.Errno
	if !errors.As(err, &e) {
		t.Errorf("%#v is no error as they all are", err)
	}
}

// shown is how something ended, and what it told: the way's name, and the numbers.
func shown(e api.End) string {
	ways := []string{"nothing", "done", "zero", "bounds", "deep", "fuel", "full", "stack", "fault"}
	return strings.TrimSpace(ways[e.Way] + " " + strings.Trim(fmt.Sprint(e.Out), "[]"))
}
