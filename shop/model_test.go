package shop_test

import (
	"errors"
	"fmt"
	"maps"
	"slices"

	"marquetry/api"
	"marquetry/code"
	"marquetry/plain"
	"marquetry/sym"
	"marquetry/tree"
)

// model is a second reading of 10.1: texts that are put, and those that were built.
type model struct {
	put, built map[string]string
}

// parsed are modules of texts.
func parsed(texts map[string]string) map[string]api.Module {
	m := map[string]api.Module{}
	for name, s := range texts {
		m[name], _ = tree.Parse(s)
	}
	return m
}

// putText is what Put answers.
func (x *model) putText(s string) string {
	m, err := tree.Parse(s)
	if err != nil {
		return told("", err)
	}
	if _, there := x.put[m.Name]; !there && len(x.put) == api.MaxModules {
		return told("", api.ErrFull)
	}
	x.put[m.Name] = s
	return told(m.Name, nil)
}

// drop is what Drop answers.
func (x *model) drop(name string) string {
	if _, there := x.put[name]; !there {
		return told("", api.ErrMissing)
	}
	delete(x.put, name)
	return told("", nil)
}

// build is what Build answers. All is compiled, and nothing is kept but texts.
func (x *model) build() string {
	now := parsed(x.put)
	order, err := inOrder(now)
	if err != nil {
		return told("", err)
	}
	seen := map[string][]api.Sym{}
	for name, m := range now {
		seen[name] = sym.Of(m)
	}
	for _, name := range order {
		if _, err := code.Compile(now[name], seen); err != nil {
			return told(name, err)
		}
	}
	was := parsed(x.built)
	var stale []string
	for _, name := range order {
		if isChanged(was, now, name) || slices.ContainsFunc(now[name].Imports, func(of string) bool {
			used := sym.Used(now[name], of)
			return isChanged(was, now, of) && sym.Needs(sym.Of(was[of]), used) != sym.Needs(sym.Of(now[of]), used)
		}) {
			stale = append(stale, name)
		}
	}
	x.built = maps.Clone(x.put)
	return told("", nil, stale...)
}

// isChanged says whether a source was not built, or was written otherwise.
func isChanged(was, now map[string]api.Module, name string) bool {
	m, there := was[name]
	return !there || tree.Print(m) != tree.Print(now[name])
}

// inOrder is a second reading of Order.
func inOrder(m map[string]api.Module) ([]string, error) {
	var told []string
	for len(told) < len(m) {
		waits := func(of string) bool {
			_, there := m[of]
			return there && !slices.Contains(told, of)
		}
		may := slices.DeleteFunc(slices.Sorted(maps.Keys(m)), func(name string) bool {
			return slices.Contains(told, name) || slices.ContainsFunc(m[name].Imports, waits)
		})
		if len(may) == 0 {
			return nil, api.ErrCycle
		}
		told = append(told, may[0])
	}
	return told, nil
}

// told is an answer as a text: names, a name, and an error with its place.
func told(name string, err error, names ...string) string {
	var e api.Errno
	if err != nil && !errors.As(err, &e) {
		return fmt.Sprintf("%#v is no error as they all are", err)
	}
	what, place := plain.Place(err)
	return fmt.Sprintf("%v %q %d at %d", names, name, what, place)
}
