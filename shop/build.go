package shop

import (
	"maps"
	"slices"

	"marquetry/api"
	"marquetry/check"
	"marquetry/code"
	"marquetry/plan"
	"marquetry/sym"
	"marquetry/tree"
)

// stale are names of sources that must be built anew, as they stand in order.
func (s *Shop) stale(order []string) []string {
	must := plan.Stale(s.built, s.sources, s.changed())
	var stale []string
	for _, name := range order {
		if slices.Contains(must, name) {
			stale = append(stale, name)
		}
	}
	return stale
}

// changed are names of sources that are not as they were built. How a source was laid out makes no difference: its object would be the same.
func (s *Shop) changed() []string {
	var changed []string
	for name, m := range s.sources {
		if was, there := s.built[name]; !there || tree.Print(was) != tree.Print(m) {
			changed = append(changed, name)
		}
	}
	return changed
}

// compile makes objects of those that are stale, and looks for what is wrong in all; in which one, if there is an error. (Also who is not stale may be wrong now: what it imports, and uses nothing of, may be gone.)
func (s *Shop) compile(order, stale []string) (_ map[string]*api.Object, wrong string, _ error) {
	seen := s.seen()
	fresh := map[string]*api.Object{}
	for _, name := range order {
		if !slices.Contains(stale, name) {
			if err := check.Check(s.sources[name], seen); err != nil {
				return nil, name, err
			}
			continue
		}
		o, err := code.Compile(s.sources[name], seen)
		if err != nil {
			return nil, name, err
		}
		fresh[name] = o
	}
	return fresh, "", nil
}

// seen is what others see of all sources.
func (s *Shop) seen() map[string][]api.Sym {
	seen := map[string][]api.Sym{}
	for name, m := range s.sources {
		seen[name] = sym.Of(m)
	}
	return seen
}

// lay lets all sources be what is built: with fresh objects, and those that may stay. It is called when nothing can go wrong any more.
func (s *Shop) lay(fresh map[string]*api.Object) {
	for name := range s.built {
		if _, there := s.sources[name]; !there {
			delete(s.objects, name)
		}
	}
	if s.objects == nil {
		s.objects = map[string]*api.Object{}
	}
	maps.Copy(s.objects, fresh)
	s.built = maps.Clone(s.sources)
}
