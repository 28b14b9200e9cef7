package plan_test

import (
	"strings"
	"testing"

	"marquetry/api"
	"marquetry/plain"
	"marquetry/plan"
	"marquetry/tree"
)

// reads asks that a text is a module.
func reads(t *testing.T, s string) api.Module {
	t.Helper()
	m, err := tree.Parse(s)
	if err != nil {
		t.Fatalf("%q: %v; want none", s, err)
	}
	return m
}

// modules are those of texts, by their names.
func modules(t *testing.T, texts ...string) map[string]api.Module {
	t.Helper()
	all := map[string]api.Module{}
	for _, s := range texts {
		m := reads(t, s)
		all[m.Name] = m
	}
	return all
}

// importing are modules that do nothing, told by lines as "a: b c": a imports b and c.
func importing(t *testing.T, lines ...string) map[string]api.Module {
	t.Helper()
	var texts []string
	for _, s := range lines {
		name, imports, _ := strings.Cut(s, ":")
		text := "module " + name + "; "
		if l := strings.Fields(imports); len(l) > 0 {
			text += "import " + strings.Join(l, ", ") + "; "
		}
		texts = append(texts, text+"begin end.")
	}
	return modules(t, texts...)
}

// inOrder asks for an order: names with a blank between.
func inOrder(t *testing.T, what string, m map[string]api.Module, want string) {
	t.Helper()
	l, err := plan.Order(m)
	if got := strings.Join(l, " "); got != want || err != nil {
		t.Errorf("%s: %s, %v; want %s", what, got, err, want)
	}
}

// goesRound asks for ErrCycle, and for nothing beside it.
func goesRound(t *testing.T, what string, m map[string]api.Module) {
	t.Helper()
	l, err := plan.Order(m)
	if got, place := plain.Place(err); got != api.ErrCycle || place != -1 || l != nil {
		t.Errorf("%s: %v, error %d at %d; want error %d alone", what, l, got, place, api.ErrCycle)
	}
}

// isStale asks which names are stale: names with a blank between.
func isStale(t *testing.T, what string, was, now map[string]api.Module, changed, want string) {
	t.Helper()
	if got := strings.Join(plan.Stale(was, now, strings.Fields(changed)), " "); got != want {
		t.Errorf("%s: %q is stale; want %q", what, got, want)
	}
}

// die: numbers that look drawn, the same each time.
type die uint64

func (d *die) n(most int) int {
	*d = *d*6364136223846793005 + 1442695040888963407
	return int(uint64(*d>>33) % uint64(most))
}

func (d *die) of(l ...string) string { return l[d.n(len(l))] }
