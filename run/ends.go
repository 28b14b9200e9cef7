package run

import (
	"marquetry/api"
)

// end is thrown to end all that goes, in that way: it may lie many procedures deep.
type end int

// told is thrown by a Return, to end the procedure in which it stands: it may lie deep within others.
type told int64

// way is the way in which something ended, by what was thrown. Nothing but an end comes so far on purpose; should anything else ever, neither Load nor Call may panic.
func way(r any) int {
	if r == nil {
		return api.Done
	}
	if e, ok := r.(end); ok {
		return int(e)
	}
	return api.Fault
}
