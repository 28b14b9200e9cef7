package desk

import (
	"strconv"

	"marquetry/api"
)

// throw ends what a line does, if there is an error: the line is answered by that alone.
func throw(err error) {
	if err != nil {
		panic(api.Tell(err))
	}
}

// caught tells what was thrown. Nothing but an Errno is thrown on purpose; should anything else ever be, Session still may not panic.
func caught(r any) api.Errno {
	if e, ok := r.(api.Errno); ok {
		return e
	}
	return api.ErrForm
}

// refused answers an error.
func refused(e api.Errno) string { return "error " + strconv.Itoa(int(e)) }
