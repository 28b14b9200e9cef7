package plan

import (
	"marquetry/api"
	"marquetry/sym"
)

// view is what others saw of a module, and what they see of it now.
type view struct {
	was, now []api.Sym
}

// viewsOf are the views of modules that were changed. Of one that is not there nothing is seen.
func viewsOf(was, now map[string]api.Module, changed []string) map[string]view {
	views := map[string]view{}
	for _, name := range changed {
		if _, there := views[name]; !there {
			views[name] = view{was: sym.Of(was[name]), now: sym.Of(now[name])}
		}
	}
	return views
}

// differs says whether what is used is not as it was.
func (v view) differs(used []string) bool { return sym.Needs(v.was, used) != sym.Needs(v.now, used) }
