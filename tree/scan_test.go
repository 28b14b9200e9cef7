package tree_test

import (
	"fmt"
	"strings"
	"testing"

	"marquetry/api"
	"marquetry/tree"
)

// 1.1: blanks and line feeds between tokens, or none.
func TestBlanksBetween(t *testing.T) {
	want := tree.Print(reads(t, "module m; begin x := a <= b; end."))
	for _, s := range []string{
		"module m;begin x:=a<=b;end.",
		"\n\n module\nm\n;\nbegin\n x \n := \n a\n<=\nb ; end \n . \n\n ",
		"module m;begin x:=a <=b;end.",
	} {
		if got := tree.Print(reads(t, s)); got != want {
			t.Errorf("%q: %q; want %q", s, got, want)
		}
	}
}

// 1.1: the first mark that stands there is taken.
func TestFirstMark(t *testing.T) {
	for in, want := range map[string]string{
		"a<=b": "{a <= b}", "a>=b": "{a >= b}", "a<b": "{a < b}", "a>b": "{a > b}",
		"a=b": "{a = b}", "a#b": "{a # b}", "a+b": "{a + b}", "a-b": "{a - b}", "a*b": "{a * b}",
		"a.b": "a.b", "a[b]": "a[b]", "a(b,c)": "a(b c)", "a--b": "{a - {- b}}",
	} {
		if got := shape(value(t, in)); got != want {
			t.Errorf("%s: %s; want %s", in, got, want)
		}
	}
	fails(t, "module m; begin write a<|>b; end.", api.ErrForm)
	fails(t, "module m; begin write a=|<b; end.", api.ErrForm)
	fails(t, "module m; begin write a> |=b; end.", api.ErrForm)
	fails(t, "module m; begin x |: = 1; end.", api.ErrForm)
}

// 1.1: a WORD has a letter first; digits and a word behind them are two tokens.
func TestWordsAndNumbers(t *testing.T) {
	m := reads(t, "module m1a2; begin x9 := 10; end.")
	if m.Name != "m1a2" || m.Body[0].Name != "x9" || m.Body[0].Value.N != 10 {
		t.Errorf("%+v", m)
	}
	fails(t, "module |1m; begin end.", api.ErrForm)
	fails(t, "module m; begin x := 12|ab; end.", api.ErrForm)
	fails(t, "module m; begin x := 1 |2; end.", api.ErrForm)
	if got := shape(value(t, "12div 5")); got != "{12 div 5}" {
		t.Error(got)
	}
	fails(t, "module m; begin x := 12 |div5; end.", api.ErrForm)
}

// 1.1: what is no token is told ahead of all else.
func TestNoToken(t *testing.T) {
	for _, c := range []string{"\t", "\r", "\x00", "\v", "A", "Z", "_", "!", "\"", "$", "%", "&", "'", "/", "?", "@", "\\", "^", "`", "{", "}", "~", "\x7f", "\x80", "\xff", "é", "\u00a0"} {
		fails(t, "module m; begin end. |"+c, api.ErrForm)
		fails(t, "module m; x x x 1 "+"|"+c+" begin", api.ErrForm)
		fails(t, "module m|"+c+"; begin end.", api.ErrForm)
		fails(t, "|"+c, api.ErrForm)
		fails(t, "; |"+c+" !", api.ErrForm)
	}
	fails(t, "module averylongname; import a, b, c, d, e, f, g; |!", api.ErrForm)
}

// 1.1: MaxTokens tokens may be; the one behind them is told ahead of all else.
func TestMaxTokens(t *testing.T) {
	// Nine tokens, and two more for each sum, three of one with `-`.
	head, pairs := "module m; begin write 1", (api.MaxTokens-9)/2
	sums := func(n int) string { return strings.Repeat(" + 1", n) }
	reads(t, head+sums(pairs)+"; end.")
	reads(t, head+" + -1"+sums(pairs-1)+"; end.")
	fails(t, head+sums(pairs+1)+"; end|.", api.ErrLimit)
	fails(t, head+" + -1"+sums(pairs)+"; |end.", api.ErrLimit)

	full := strings.Repeat("; ", api.MaxTokens)
	fails(t, "|"+full, api.ErrForm)
	fails(t, full+"|;", api.ErrLimit)
	fails(t, full+"|abc ;", api.ErrLimit)
	fails(t, full+"\n\n|; !", api.ErrLimit)
	fails(t, full+"|!", api.ErrForm)
	fails(t, full[2:]+"; |! ;", api.ErrForm)
	fails(t, full[2:]+"|! ; ;", api.ErrForm)
	reads(t, "module m; begin end."+strings.Repeat(" \n", 5000))
}

// 1.1: a NAME is none of the words of the form.
func TestKeptWords(t *testing.T) {
	kept := strings.Fields("module import var proc begin end int array return write while do if then elsif else or and not div mod")
	for _, w := range kept {
		fails(t, "module |"+w+"; begin end.", api.ErrForm)
		fails(t, "module m; import a, |"+w+"; begin end.", api.ErrForm)
		fails(t, "module m; var |"+w+": int; begin end.", api.ErrForm)
		fails(t, "module m; proc |"+w+"(); begin end; begin end.", api.ErrForm)
		fails(t, "module m; proc p(|"+w+"); begin end; begin end.", api.ErrForm)
		fails(t, "module m; begin x := a.|"+w+"; end.", api.ErrForm)
		reads(t, "module "+w+"x; begin x"+w+" := "+w+"1; end.")
	}
	for _, w := range strings.Fields("for to integer of is bool main get put load x") {
		reads(t, fmt.Sprintf("module %s; import %[1]s; var %[1]s: int; proc %[1]s(%[1]s); var %[1]s; begin end; begin %[1]s := %[1]s.%[1]s; end.", w))
	}
}
