package run_test

import (
	"errors"
	"fmt"
	"strings"
	"testing"

	"marquetry/api"
	"marquetry/plain"
	"marquetry/run"
	"marquetry/tree"
)

// much is more steps than any of these modules does, but those that go on and on.
const much = 100_000

// reads asks that a text is a module.
func reads(t *testing.T, s string) api.Module {
	t.Helper()
	m, err := tree.Parse(s)
	if err != nil {
		t.Fatalf("%q: %v; want none", s, err)
	}
	return m
}

// shown is how something ended, and what it told: the way's name, and the numbers.
func shown(e api.End) string {
	ways := []string{"nothing", "done", "zero", "bounds", "deep", "fuel", "full", "stack", "fault"}
	return strings.TrimSpace(ways[e.Way] + " " + strings.Trim(fmt.Sprint(e.Out), "[]"))
}

// wrong asks for an error, as they all are, and for its place (below 0: none).
func wrong(t *testing.T, what string, err error, want api.Errno, wantPlace int) {
	t.Helper()
	got, place := plain.Place(err)
	if got != want || place != wantPlace {
		t.Errorf("%s: error %d at %d; want %d at %d", what, got, place, want, wantPlace)
	}
	var e api.Errno
	if err != nil && !errors.As(err, &e) {
		t.Errorf("%s: %#v is no error as they all are", what, err)
	}
}

// loads loads a text, and asks how that ended.
func loads(t *testing.T, w *run.World, s string, fuel int, want string) {
	t.Helper()
	e, err := w.Load(reads(t, s), fuel)
	if err != nil || shown(e) != want {
		t.Errorf("%s: %s, %v; want %s", s, shown(e), err, want)
	}
}

// world has modules of which nothing is wrong, whatever they tell.
func world(t *testing.T, texts ...string) *run.World {
	t.Helper()
	var w run.World
	for _, s := range texts {
		if _, err := w.Load(reads(t, s), much); err != nil {
			t.Fatalf("%s: %v; want none", s, err)
		}
	}
	return &w
}

// refuses asks that a text is not loaded, where @ marks the place of what is wrong, and that all is as it was.
func refuses(t *testing.T, w *run.World, s string, want api.Errno) {
	t.Helper()
	was := fmt.Sprint(w.Names())
	e, err := w.Load(reads(t, strings.Replace(s, "@", "", 1)), much)
	wrong(t, s, err, want, strings.Index(s, "@"))
	if shown(e) != "nothing" || fmt.Sprint(w.Names()) != was {
		t.Errorf("%s: %s; there are %v; want nothing, and %s", s, shown(e), w.Names(), was)
	}
}

// swaps puts a text in its place, or asks that it is refused, where @ marks the place of what is wrong.
func swaps(t *testing.T, w *run.World, s string, want api.Errno) {
	t.Helper()
	was := fmt.Sprint(w.Names())
	wrong(t, s, w.Swap(reads(t, strings.Replace(s, "@", "", 1))), want, strings.Index(s, "@"))
	if fmt.Sprint(w.Names()) != was {
		t.Errorf("%s: there are %v; want %s", s, w.Names(), was)
	}
}

// has asks what a variable has: its numbers, or "none".
func has(t *testing.T, w *run.World, module, name, want string) {
	t.Helper()
	l, err := w.Get(module, name)
	got := strings.Trim(fmt.Sprint(l), "[]")
	if err != nil {
		wrong(t, module+"."+name, err, api.ErrMissing, -1)
		got += "none"
	}
	if got != want {
		t.Errorf("%s.%s has %s; want %s", module, name, got, want)
	}
}

// calls calls a procedure, and asks how that ended, and what it told.
func calls(t *testing.T, w *run.World, module, proc string, args []int64, fuel int, want string, told int64) {
	t.Helper()
	e, n, err := w.Call(module, proc, args, fuel)
	if err != nil || shown(e) != want || n != told {
		t.Errorf("%s.%s(%v) by %d: %s, %d, %v; want %s, %d", module, proc, args, fuel, shown(e), n, err, want, told)
	}
}

// refusesCall asks that a call is refused.
func refusesCall(t *testing.T, w *run.World, module, proc string, args []int64, want api.Errno) {
	t.Helper()
	e, n, err := w.Call(module, proc, args, much)
	wrong(t, module+"."+proc, err, want, -1)
	if shown(e) != "nothing" || n != 0 {
		t.Errorf("%s.%s(%v): %s, %d beside an error", module, proc, args, shown(e), n)
	}
}

// around is a module m with some variables and procedures, in which that is done.
func around(body string) string {
	return "module m; var x: int; var y: int; var t: array 3; " +
		"proc n(a); begin write a; return a; end; proc up(a); begin x := x + a; return x; end; proc none(); begin end; " +
		"proc down(k); begin if k then return down(k - 1) + 1; end; return 0; end; begin " + body + " end."
}

// goes asks how what is done there ends.
func goes(t *testing.T, body, want string) {
	t.Helper()
	var w run.World
	loads(t, &w, around(body), much, want)
}

// die: numbers that look drawn, the same each time.
type die uint64

func (d *die) n(most int) int {
	*d = *d*6364136223846793005 + 1442695040888963407
	return int(uint64(*d>>33) % uint64(most))
}

func (d *die) of(l ...string) string { return l[d.n(len(l))] }
