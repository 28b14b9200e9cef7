package desk

import (
	"marquetry/api"
)

// deed is what a line does: of the words behind its first one, of which there must be some, and may not be more.
type deed struct {
	does        func(words []string) string
	least, most int
}

// anyMany is more words than a text has.
const anyMany = api.MaxText

// help is what may stand first in a line.
const help = "build call drop get help load names print put sum swap syms whole"

// deeds are what lines do, by their first words.
func (d *desk) deeds() map[string]deed {
	return map[string]deed{
		"put":   {d.put, 0, anyMany},
		"drop":  {d.drop, 1, 1},
		"build": {d.build, 0, 0},
		"load":  {d.load, 1, 1},
		"swap":  {d.swap, 1, 1},
		"call":  {d.call, 2, anyMany},
		"get":   {d.get, 2, 2},
		"names": {d.names, 0, 0},
		"print": {d.print, 0, 0},
		"syms":  {d.syms, 0, 0},
		"sum":   {d.sum, 0, anyMany},
		"whole": {d.whole, 1, 1},
		"help":  {d.help, 0, 0},
	}
}

// answer is what a line tells.
func answer(deeds map[string]deed, line string) (told string) {
	defer func() {
		if r := recover(); r != nil {
			told = refused(caught(r))
		}
	}()
	words := cut(line)
	if len(words) == 0 {
		return "ok"
	}
	first, behind := words[0], words[1:]
	d, there := deeds[first]
	if !there || len(behind) < d.least || len(behind) > d.most {
		throw(api.ErrForm)
	}
	return d.does(behind)
}
