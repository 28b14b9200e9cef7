package sym

import (
	"strconv"

	"marquetry/api"
)

// Numbers of FNV-1a of 32 bits.
const (
	sumStart = 2166136261
	sumPrime = 16777619
)

// addSym adds a Sym's line to a text.
func addSym(b []byte, s api.Sym) []byte {
	switch {
	case s.Args >= 0:
		return addLine(b, "proc", s.Name, strconv.Itoa(s.Args))
	case s.Len > 0:
		return addLine(b, "array", s.Name, strconv.Itoa(s.Len))
	}
	return addLine(b, "int", s.Name)
}

// addLine adds a line of words, with a blank between.
func addLine(b []byte, first string, rest ...string) []byte {
	b = append(b, first...)
	for _, s := range rest {
		b = append(append(b, ' '), s...)
	}
	return append(b, '\n')
}
