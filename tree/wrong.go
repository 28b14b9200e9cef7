package tree

import (
	"marquetry/api"
)

// throw ends the reading of a text: reading goes many calls deep, and the first thing that is wrong ends it all.
func throw(e api.Errno, place int) {
	panic(&api.At{Err: e, Place: place})
}

// caught tells what was thrown. Nothing but an At is thrown on purpose; should anything else ever be, Parse still may not panic.
func caught(r any) error {
	if at, ok := r.(*api.At); ok {
		return at
	}
	return api.ErrForm
}
