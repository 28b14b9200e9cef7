package desk_test

import (
	"strings"
	"testing"

	"marquetry/api"
	"marquetry/desk"
)

const helps = "build call drop get help load names print put sum swap syms whole"

// 11.1: a text of more than MaxText bytes is answered by one error, whatever stands in it.
func TestTooLong(t *testing.T) {
	for _, s := range []string{"x", "\n", " ", "help\n", "\x00", "é", "\xff"} {
		long := strings.Repeat(s, api.MaxText/len(s)+1)
		answers(t, long, "error 4\n")
		answers(t, long[:api.MaxText+1], "error 4\n")
	}
	answers(t, strings.Repeat("x", api.MaxText), "error 3\n")
	answers(t, strings.Repeat(" ", api.MaxText), "ok\n")
	answers(t, strings.Repeat("\n", api.MaxText), strings.Repeat("ok\n", api.MaxText))
	answers(t, strings.Repeat("x", api.MaxText-1)+"\n", "error 3\n")
	answers(t, strings.Repeat("x", api.MaxText)+"\n", "error 4\n")
	answers(t, strings.Repeat("help\n", api.MaxText/5), strings.Repeat(helps+"\n", api.MaxText/5))
}

// 11.1: cut at line feeds; one at the text's end is left out; the empty text is one line.
func TestLines(t *testing.T) {
	for text, want := range map[string]string{
		"":               "ok\n",
		"\n":             "ok\n",
		"\n\n":           "ok\nok\n",
		"\n\n\n":         "ok\nok\nok\n",
		"names":          "names\n",
		"names\n":        "names\n",
		"names\n\n":      "names\nok\n",
		"\nnames":        "ok\nnames\n",
		"names\nnames":   "names\nnames\n",
		"names\n\nnames": "names\nok\nnames\n",
		"x\n\nnames\n\n": "error 3\nok\nnames\nok\n",
		"names\n ":       "names\nok\n",
		"names\r\nnames": "error 3\nnames\n",
	} {
		answers(t, text, want)
	}
}

// 11.1: blanks between words, several, too, and at both ends; nothing else is one.
func TestBlanks(t *testing.T) {
	for line, want := range map[string]string{
		" ":                      "ok",
		"     ":                  "ok",
		" names":                 "names",
		"names ":                 "names",
		"   names   ":            "names",
		"  drop    zz ":          "error 7",
		"names\t":                "error 3",
		"\tnames":                "error 3",
		"drop\tzz":               "error 3",
		"\t":                     "error 3",
		"\r":                     "error 3",
		"\v":                     "error 3",
		"\x00":                   "error 3",
		"\u00a0":                 "error 3",
		"\u2003names":            "error 3",
		"names\u0085":            "error 3",
		"\xc0\xa0":               "error 3",
		"\xa0":                   "error 3",
		"drop \xff\xfe":          "error 7",
		"drop é":                 "error 7",
		" sum  a   b  ":          "sum 279181810",
		"sum a b":                "sum 279181810",
		"put  module  a;begin  ": "error 3",
	} {
		tells(t, line, want)
	}
	tells(t, "  put   module  a ;  begin   end.  ", "put a", " build ", "build a", "load   a", "load 1", "  names  ", "names a")
}

// 11.1: ErrForm, unless the first word is one of these.
func TestFirstWord(t *testing.T) {
	for _, word := range []string{"x", "Put", "PUT", "putt", "pu", "put;", "ok", "error", "wrong", "NAME", "..", "-", "0", "help;", "é", "\xff", "built", "symsprint", "|"} {
		for _, behind := range []string{"", " ", " a", " a b", " a b 1", " help"} {
			tells(t, word+behind, "error 3")
		}
	}
}

// 11.1: ErrForm, unless just so many words stand behind it, ahead of any other error.
func TestHowManyWords(t *testing.T) {
	first := []string{putA, putB, "build", "load a"}
	for word, most := range map[string]int{"drop": 1, "build": 0, "load": 1, "swap": 1, "get": 2, "names": 0, "print": 0, "syms": 0, "whole": 1, "help": 0} {
		for n := range 5 {
			if n == most {
				continue
			}
			for _, arg := range []string{" a", " zz", " 1"} {
				tells(t, word+strings.Repeat(arg, n), "error 3")
				behind(t, first, word+strings.Repeat(arg, n), "error 3")
			}
		}
	}
	tells(t, "call", "error 3", "call a", "error 3", "call 1", "error 3", "call a f", "error 7", "put", "error 3", "sum", "sum 2166136261")
	behind(t, first, "call", "error 3")
	behind(t, first, "call a", "error 3")
	behind(t, first, "call a f", "error 2")
	behind(t, first, "put", "error 3")
}

// 11.1: N is a number, decimal, as it would be told, of 64 bits; ErrForm ahead of Call's errors.
func TestNumbers(t *testing.T) {
	first := []string{"put module a; proc f*(p); begin return p; end; proc g*(p, q); begin return p - q; end; begin end.", "build", "load a"}
	for _, n := range []string{"0", "1", "-1", "9", "10", "-10", "1000000", "9223372036854775807", "-9223372036854775808", "-9223372036854775807"} {
		behind(t, first, "call a f "+n, "call "+n+" 1")
		behind(t, first, "call a g "+n+"  0", "call "+n+" 1")
		behind(t, first, "call zz f "+n, "error 7")
		behind(t, first, "call a zz "+n, "error 7")
		behind(t, first, "call a f 1 "+n, "error 2")
	}
	for _, n := range []string{
		"x", "-", "--1", "+1", "+0", "-0", "00", "01", "-01", "-00", "1-", "1.0", "1e3", "0x1", "0b1", "0o7", "1_000", "_1", "'1'", "1,", "é", "\xff", "１", "٣", "1\t", "1\x00", "inf", "nan", "f",
		"9223372036854775808", "-9223372036854775809", "18446744073709551615", "18446744073709551616", "-18446744073709551616", "99999999999999999999999999999999",
	} {
		behind(t, first, "call a f "+n, "error 3")
		behind(t, first, "call a g 1 "+n, "error 3")
		behind(t, first, "call a g "+n+" 1", "error 3")
		behind(t, first, "call zz f "+n, "error 3")
		behind(t, first, "call a zz 1 1 "+n, "error 3")
	}
	behind(t, first, "call a g 7 -3", "call 10 1")
}

// 11.1: `help`: all that may stand first in a line, byte by byte.
func TestHelp(t *testing.T) {
	tells(t, "help", helps, " help ", helps, "help help", "error 3")
	args := map[string]string{"call": " a f 1", "drop": " a", "get": " a x", "load": " a", "put": " module c; begin end.", "swap": " a", "whole": " a"}
	for _, word := range strings.Fields(helps) {
		first := []string{putA, "build", "load a"}
		if word == "load" {
			first = first[:2]
		}
		told := desk.Session(strings.Join(first, "\n") + "\n" + word + args[word])
		if lines := strings.Split(told, "\n"); strings.HasPrefix(lines[len(first)], "error") {
			t.Errorf("%s: %q", word, lines[len(first)])
		}
	}
}

// 11.1: at first there is an empty shop, an empty machine, and nothing was put, in each session anew.
func TestAtFirst(t *testing.T) {
	for range 2 {
		tells(t, "names", "names", "build", "build", "names", "names", "print", "error 8", "syms", "syms ",
			"load a", "error 7", "swap a", "error 7", "drop a", "error 7", "whole a", "error 7", "get a x", "error 7", "call a f 1", "error 7")
		answers(t, putA+"\nbuild\nload a\nget a x", "put a\nbuild a\nload 1\nget 5\n")
	}
}

// P4: what a text is answered hangs on it alone; and each line on those ahead of it alone.
func TestLinesAhead(t *testing.T) {
	lines := []string{putA, "print", "build", "load a", putB, "syms", "names", "x", "build", "load b", "", "call a f 3", "get b x", "swap a", "drop a", "build", "load a", "sum  x y", "whole b", "help"}
	whole := desk.Session(strings.Join(lines, "\n") + "\n")
	if n := strings.Count(whole, "\n"); n != len(lines) {
		t.Fatalf("%q: %d lines; want %d", whole, n, len(lines))
	}
	for i := range lines {
		part := desk.Session(strings.Join(lines[:i+1], "\n") + "\n")
		if !strings.HasPrefix(whole, part) || strings.Count(part, "\n") != i+1 {
			t.Errorf("%q is not how %q begins", part, whole)
		}
	}
}

// P1: whatever is given, it ends, a line each.
func TestAnything(t *testing.T) {
	d := die(7)
	words := append(strings.Fields(helps), "a", "b", "f", "x", "zz", "-1", "0", "1", "\n", "\n", "module", ";", "begin", "end.", "module a;", "begin end.", "var x*: int;", "\xff", "\x00", "|", "é", "\t", putA, "\n"+putA+"\nbuild\nload a\n")
	for range 3000 {
		text := ""
		for range d.n(30) {
			text += words[d.n(len(words))] + d.of("", " ", " ", "  ", "\n")
		}
		want := strings.Count(strings.TrimSuffix(text, "\n"), "\n") + 1
		if got := desk.Session(text); len(text) <= api.MaxText && strings.Count(got, "\n") != want || !strings.HasSuffix(got, "\n") {
			t.Fatalf("%q: %q; want %d lines", text, got, want)
		}
	}
	for range 3000 {
		b := make([]byte, d.n(60))
		for i := range b {
			b[i] = byte(d.n(256))
		}
		want := strings.Count(strings.TrimSuffix(string(b), "\n"), "\n") + 1
		if got := desk.Session(string(b)); strings.Count(got, "\n") != want {
			t.Fatalf("%q: %q; want %d lines", b, got, want)
		}
	}
}
