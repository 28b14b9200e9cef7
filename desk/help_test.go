package desk_test

import (
	"strings"
	"testing"

	"marquetry/desk"
)

// Modules that are used again and again: a, and b that uses of it x, t and f.
const (
	putA = "put module a; var x*: int; var t*: array 3; var own: int; proc f*(p); begin own := own + 1; return p + own; end; proc g(); begin end; begin x := 5; t[1] := -6; end."
	putB = "put module b; import a; var x*: int; begin x := a.x + a.t[1] + a.f(1); write x; write -x; end."
)

// answers asks for what a text is answered.
func answers(t *testing.T, text, want string) {
	t.Helper()
	if got := desk.Session(text); got != want {
		t.Errorf("%.300q: %.300q; want %.300q", text, got, want)
	}
}

// tells asks one session line by line: each line has its answer behind it.
func tells(t *testing.T, lines ...string) {
	t.Helper()
	var asked, want []string
	for i := 0; i < len(lines); i += 2 {
		asked, want = append(asked, lines[i]), append(want, lines[i+1])
	}
	got := desk.Session(strings.Join(asked, "\n") + "\n")
	told := strings.Split(strings.TrimSuffix(got, "\n"), "\n")
	if len(told) != len(want) || !strings.HasSuffix(got, "\n") {
		t.Fatalf("%q: %q; want %d lines", asked, got, len(want))
	}
	for i, line := range told {
		if line != want[i] {
			t.Errorf("%d: %s: %q; want %q", i, asked[i], line, want[i])
		}
	}
}

// behind asks for the answer of a line behind others that are answered by no error.
func behind(t *testing.T, first []string, line, want string) {
	t.Helper()
	got := strings.Split(desk.Session(strings.Join(first, "\n")+"\n"+line+"\n"), "\n")
	for i, told := range got[:len(first)] {
		if strings.HasPrefix(told, "error") || strings.HasPrefix(told, "wrong") {
			t.Fatalf("%s: %s", first[i], told)
		}
	}
	if told := got[len(first)]; told != want {
		t.Errorf("%q: %q; want %q", line, told, want)
	}
}

// die: numbers that look drawn, the same each time.
type die uint64

func (d *die) n(most int) int {
	*d = *d*6364136223846793005 + 1442695040888963407
	return int(uint64(*d>>33) % uint64(most))
}

func (d *die) of(l ...string) string { return l[d.n(len(l))] }
