package check

import (
	"marquetry/api"
)

// throw ends the look at a module: that goes many calls deep, and the first thing that is wrong ends it all.
func throw(e api.Errno, place int) {
	panic(&api.At{Err: e, Place: place})
}

// caught tells what was thrown: an At, or, of imports, an Errno alone. Nothing else is thrown on purpose; should anything else ever be, Check still may not panic.
func caught(r any) error {
	if at, ok := r.(*api.At); ok {
		return at
	}
	if e, ok := r.(api.Errno); ok {
		return e
	}
	return api.ErrArg
}
