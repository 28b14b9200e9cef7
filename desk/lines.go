package desk

import (
	"iter"
	"strconv"
	"strings"

	"marquetry/api"
)

// lines are the lines of a text. A line feed at its end begins none.
func lines(text string) iter.Seq[string] {
	return func(yield func(string) bool) {
		rest, more := strings.TrimSuffix(text, "\n"), true
		for more {
			var line string
			line, rest, more = strings.Cut(rest, "\n")
			if !yield(line) {
				return
			}
		}
	}
}

// cut are the words of a line. Nothing but a blank stands between words: any other byte may be part of one.
func cut(line string) []string {
	return strings.FieldsFunc(line, func(r rune) bool { return r == ' ' })
}

// number reads an N. It must be written as it would be told: no nought ahead, no +, no -0.
func number(word string) int64 {
	n, err := strconv.ParseInt(word, 10, 64)
	if err != nil || strconv.FormatInt(n, 10) != word {
		throw(api.ErrForm)
	}
	return n
}

// numbers reads Ns.
func numbers(words []string) []int64 {
	var l []int64
	for _, word := range words {
		l = append(l, number(word))
	}
	return l
}

// named is a word, and names, a blank ahead of each.
func named(word string, names []string) string {
	for _, name := range names {
		word += " " + name
	}
	return word
}

// counted is a word, and numbers, a blank ahead of each.
func counted(word string, numbers ...int64) string {
	told := []byte(word)
	for _, n := range numbers {
		told = strconv.AppendInt(append(told, ' '), n, 10)
	}
	return string(told)
}

// barred is a text of several lines as part of one.
func barred(text string) string { return strings.ReplaceAll(text, "\n", "|") }
