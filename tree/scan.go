package tree

import (
	"marquetry/api"
)

// Kinds of tokens.
const (
	atEnd = iota // behind the last token, so that a parser always has one to look at
	word
	number
	mark
)

// token is a token, and where it begins.
type token struct {
	kind int
	at   int
	text string
}

// marks: one that begins with another one stands ahead of it, for the first that fits is taken.
var marks = [...]string{":=", "<=", ">=", "#", "=", "<", ">", "+", "-", "*", "(", ")", "[", "]", ",", ";", ":", "."}

// keptWords are the words that are no names.
func keptWords() map[string]int {
	return map[string]int{
		"module": 1, "import": 1, "var": 1, "proc": 1, "begin": 1, "end": 1, "int": 1, "array": 1,
		"return": 1, "write": 1, "while": 1, "do": 1, "if": 1, "then": 1, "elsif": 1, "else": 1,
		"or": 1, "and": 1, "not": 1, "div": 1, "mod": 1,
	}
}

// scan cuts a text into tokens, the last one atEnd. It works on bytes of its own, so that no name shares memory with the text.
func scan(s string) []token {
	text := []byte(s)
	blank := func(c byte) bool { return c == ' ' || c == '\n' }
	var tokens []token
	for i := past(text, 0, blank); i < len(text); i = past(text, i, blank) {
		kind, end := cut(text, i)
		if len(tokens) == api.MaxTokens {
			throw(api.ErrLimit, i)
		}
		tokens = append(tokens, token{kind, i, string(text[i:end])})
		i = end
	}
	return append(tokens, token{kind: atEnd, at: len(text)})
}

// cut tells which kind of token begins at i, and where it ends.
func cut(text []byte, i int) (kind, end int) {
	letter := func(c byte) bool { return c >= 'a' && c <= 'z' }
	digit := func(c byte) bool { return c >= '0' && c <= '9' }
	if letter(text[i]) {
		return word, past(text, i, func(c byte) bool { return letter(c) || digit(c) })
	}
	if digit(text[i]) {
		return number, past(text, i, digit)
	}
	for _, m := range marks {
		if end := i + len(m); end <= len(text) && string(text[i:end]) == m {
			return mark, end
		}
	}
	throw(api.ErrForm, i)
	return atEnd, i
}

// past is the first place from i on where the byte is none of those looked for.
func past(text []byte, i int, looked func(c byte) bool) int {
	for i < len(text) && looked(text[i]) {
		i++
	}
	return i
}
