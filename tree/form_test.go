package tree_test

import (
	"strings"
	"testing"

	"marquetry/api"
)

// 1.1: at the first token that may not stand there, or at the text's end.
func TestFormOfModules(t *testing.T) {
	for _, s := range []string{
		"|", " \n |", "|m", "|begin end.", "module|", "module |;", "module m|", "module m |begin", "module m;|", "module m; \n|",
		"module m; |end.", "module m; |x := 1;", "module m; |; begin end.",
		"module m; import |; begin end.", "module m; import a|", "module m; import a |b;", "module m; import a, |; begin end.", "module m; import a; |import b;",
		"module m; var|", "module m; var |: int;", "module m; var a |;", "module m; var a*|* : int;", "module m; var a: |b;", "module m; var a: int|", "module m; var a |, b: int;",
		"module m; var a: array |;", "module m; var a: array |n;", "module m; var a: array |-1;", "module m; var a: array 3 |begin end.", "module m; var a: |3;", "module m; var a: int |3;",
		"module m; var a: int; |import b;", "module m; proc p(); begin end; |var a: int; begin end.", "module m; proc p(); begin end; |import a;",
		"module m; proc |(a);", "module m; proc p|;", "module m; proc p*|*();", "module m; proc p(a|;", "module m; proc p(a, |); begin end;", "module m; proc p(|, a);", "module m; proc p(a |b);", "module m; proc p() |begin end;", "module m; proc p(a|*);",
		"module m; proc p(); var |; begin end;", "module m; proc p(); var a|: int;", "module m; proc p(); var a; |var b; begin end;", "module m; proc p(); |end; begin end.", "module m; proc p(); begin end|. begin end.", "module m; proc p(); begin end|",
		"module m; proc p(); begin |proc q(); begin end; end; begin end.",
		"module m; begin |", "module m; begin end|", "module m; begin end|; ", "module m; begin end. |.", "module m; begin end. |module n; begin end.", "module m; begin end.|end", "module m; begin |begin end.",
	} {
		fails(t, s, api.ErrForm)
	}
}

// 1.1: the same, of statements.
func TestFormOfStatements(t *testing.T) {
	for _, s := range []string{
		"|;", "|1;", "|-x;", "|(x);", "|int", "|:=", "|*", "|not x;", "|do", "|then", "|var x;",
		"x|;", "x |= 1;", "x |: 1;", "x := |;", "x := 1|", "x := 1 |x := 2;", "x := 1;|;", "x := y |:= 1;", "x |x", "x.|1", "x.|[", "x .y|.z", "x |1",
		"t[|] := 1;", "t[1|; := 1;", "t[1] |;", "t[1]|[2] := 1;", "t[1]|(2);", "t[1|, 2] := 1;", "t[1]|.x := 1;", "t|", "t[|", "t[1|", "t[1]|",
		"f()|", "f() |:= 1;", "f()|();", "f()|[1];", "f()|.x;", "f(|;", "f(|, 1);", "f(1, |);", "f(1 |2);", "f(1|;", "f(|]",
		"return|;", "return |", "return 1|", "return 1 |2;", "write |;", "write x |:= 1;", "write x|, y;",
		"while |do end;", "while 1|; end;", "while 1 |then end;", "while 1 do|", "while 1 do |else end;", "while 1 do |elsif 1 then end;", "while 1 do end|.", "while 1 do end|",
		"if |then end;", "if 1 |do end;", "if 1 then|", "if 1 then end|.", "if 1 then elsif |then end;", "if 1 then elsif 1|; end;",
		"if 1 then else |elsif 1 then end;", "if 1 then else |else end;", "if 1 then else end|", "if 1 then elsif 2 then else |elsif 3 then end;", "if 1 then elsif 2 then end; |elsif",
	} {
		fails(t, "module m; begin "+s, api.ErrForm)
		fails(t, "module m; proc p(); begin "+s, api.ErrForm)
		fails(t, "module m; begin while x do "+s, api.ErrForm)
	}
	fails(t, "module m; begin |elsif 1 then end; end.", api.ErrForm)
	fails(t, "module m; begin |else end; end.", api.ErrForm)
	fails(t, "module m; proc p(); begin |else end; begin end.", api.ErrForm)
}

// 1.1: a REF at a statement's beginning is read as far as it goes; with a `.` it must be a CALL.
func TestFormOfForeignPlaces(t *testing.T) {
	for _, s := range []string{
		"m.x |:= 1;", "m.x|;", "m.x|", "m.x |1", "m.t[1] |:= 1;", "m.t[1]|;", "m.t[1]|(2);", "m.t[1]|", "m.x|.y();", "m.f(1)|", "m.f(1) |:= 2;",
		"m.t[1|) := 1;", "m.t[|] := 1;", "m.t[1 + |] := 1;", "m.f(|,", "m.|if", "m.|",
	} {
		fails(t, "module a; begin "+s, api.ErrForm)
	}
	fails(t, "module a; begin m.t[|9223372036854775808] := 1; end.", api.ErrLimit)
	fails(t, "module a; begin m.|abcdefghijk := 1; end.", api.ErrLimit)
	reads(t, "module a; begin m.f(); m.f(m.x, m.t[m.g(1)]); x := m.x; t[m.x] := m.t[1]; end.")
}

// 1.1: the same, of expressions.
func TestFormOfExpressions(t *testing.T) {
	for _, s := range []string{
		"|;", "|)", "|]", "|,", "|+ 1", "|* 1", "|= 1", "|div 1", "|or 1", "|if", "|int", "-|;", "- |+ 1", "not|;", "not |and 1",
		"(|)", "(1|;", "(1|]", "(1|, 2)", "(|",
		"1|(2)", "1|[2]", "1|.x", "(x)|(1)", "(x)|[1]", "(x)|.y", "x.|", "x.|1", "x.y|.z", "x |y", "x |not y",
		"x + |;", "x + |* y", "x = |= y", "x |:= y", "x -|;", "x - |", "x and |", "x or |or y",
		"t[|]", "t[1|)", "t[1]|[2]", "t[1]|(2)", "t[1]|.x", "t[1|, 2]", "t[1|",
		"f(|,", "f(1,|)", "f(1 |2)", "f(1|]", "f(1)|(2)", "f(1)|[2]", "f()|.x", "f(1|", "m.f(1,|)", "m.t[|]",
	} {
		for _, ahead := range []string{"write ", "return ", "x := ", "t[0] := ", "while ", "if ", "if 1 then elsif ", "write -", "write 1 + ", "write 1 or not ", "write (1 + ", "write f(1, ", "x[1 * "} {
			fails(t, "module m; begin "+ahead+s, api.ErrForm)
		}
	}
}

// 1.1, P3: from the left; of one token ErrForm ahead of ErrLimit.
func TestFirstFromTheLeft(t *testing.T) {
	long := strings.Repeat("a", api.MaxName+1)
	fails(t, "module m |m; import "+long+"; begin end.", api.ErrForm)
	fails(t, "module |"+long+" m m;", api.ErrLimit)
	fails(t, "module m; begin x := y |"+long+"; end.", api.ErrForm)
	fails(t, "module m; |"+long+" begin end.", api.ErrForm)
	fails(t, "module m; var a: array |"+long+"; begin end.", api.ErrForm)
	fails(t, "module m; begin x := 1 |9999999999999999999; end.", api.ErrForm)
	fails(t, "module m; begin x := |9999999999999999999 1; end.", api.ErrLimit)
	fails(t, "module m; begin |9999999999999999999 := 1; end.", api.ErrForm)
	fails(t, "module m; var a: array |31 1 begin end.", api.ErrLimit)
}
