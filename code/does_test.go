package code_test

import (
	"fmt"
	"strings"
	"testing"

	"marquetry/api"
	"marquetry/run"
	"marquetry/sym"
	"marquetry/vm"
)

// much is more steps than any of these modules does.
const much = 2000

// within is in how many instructions something must end that ends within so many steps.
func within(steps int) int { return 4000 * (steps + 1) }

// goes loads a text behind others, as it is meant and as code: both must end as is wanted.
func goes(t *testing.T, want string, texts ...string) {
	t.Helper()
	var w run.World
	var in vm.Machine
	seen := map[string][]api.Sym{}
	for i, s := range texts {
		m := reads(t, s)
		o := compiles(t, m, seen)
		seen[m.Name] = sym.Of(m)
		e, err := w.Load(m, much)
		c, no := in.Load(o, within(much))
		if err != nil || no != nil {
			t.Fatalf("%s: %v, %v; want none", s, err, no)
		}
		if i == len(texts)-1 && (shown(e) != want || shown(c) != want) {
			t.Errorf("%s: meant is %s; code: %s; want %s", s, shown(e), shown(c), want)
		}
	}
}

// around is a module with some variables and procedures, in which that is done.
func around(body string) string {
	return "module m; var x: int; var y: int; var t: array 3; var u: array 1; " +
		"proc n(a); begin write a; return a; end; proc up(a); begin x := x + a; return x; end; proc none(); begin end; proc late(a, b, c); var d, e; begin e := a - b; d := e * c; return d; end; " +
		"proc down(k); begin if k then return down(k - 1) + 1; end; return 0; end; begin " + body + " end."
}

// 5.1: code does what is meant, statement by statement.
func TestStmts(t *testing.T) {
	for body, want := range map[string]string{
		"":                                      "done",
		"x := 3; y := x; write y; write x + y;": "done 3 6",
		"t[2] := 5; u[0] := t[2]; t[u[0] - 5] := 7; write t[0]; write u[0];": "done 7 5",
		"t[n(1)] := n(2); write t[1];":                                       "done 1 2 2",
		"t[n(3)] := n(2); write 9;":                                          "bounds 3 2", // behind its Value
		"t[n(3)] := 1 div n(0);":                                             "zero 3 0",
		"t[-1] := 1;":                                                        "bounds",
		"u[1] := 1;":                                                         "bounds",
		"write t[3];":                                                        "bounds",
		"write 1; write t[-1];":                                              "bounds 1",
		"write u[t[n(0)]]; write t[9223372036854775807];":                    "bounds 0 0",
		"if 1 then write 1; end; if 0 then write 2; end; write 3;":           "done 1 3",
		"if 0 then write 1; else write 2; end; if -1 then write 3; else end;":                        "done 2 3",
		"if 0 then elsif 0 then write 1; elsif 5 then write 2; else write 3; end;":                   "done 2",
		"if 0 then elsif 0 then write 1; else write 3; end; write 4;":                                "done 3 4",
		"if 1 then if 0 then write 1; else if 1 then write 2; end; write 3; end; else write 4; end;": "done 2 3",
		"while x < 3 do x := x + 1; write x; end; write 9;":                                          "done 1 2 3 9",
		"while 0 do write 1; end;": "done",
		"while x < 2 do x := x + 1; y := 0; while y < 2 do y := y + 1; write x * 10 + y; end; end;": "done 11 12 21 22",
		"return 5; write 1;": "done",
		"write 1; while 1 do if x = 2 then return 0; end; x := x + 1; end; write 2;": "done 1",
		"return 1 div 0;": "zero",
		"n(4); none(); write none(); up(3); up(4); write x;": "done 4 0 7",
		"write late(9, 2, 3); write late(1, 2, 3);":          "done 21 -3",
		"write down(29);":                      "done 29",
		"write down(30);":                      "deep",
		"while 1 do write x; x := x + 1; end;": "full " + strings.Trim(fmt.Sprint(counted(api.MaxOut)), "[]"),
	} {
		goes(t, want, around(body))
	}
}

// counted are numbers from 0 on.
func counted(n int) []int {
	var l []int
	for i := range n {
		l = append(l, i)
	}
	return l
}

// 5.1: code does what is meant, expression by expression.
func TestExprs(t *testing.T) {
	for x, want := range map[string]string{
		"7": "7", "9223372036854775807": "9223372036854775807", "-9223372036854775807 - 1": "-9223372036854775808", "9223372036854775807 + 1": "-9223372036854775808",
		"2 + 3 * 4": "14", "(2 + 3) * 4": "20", "10 - 2 - 3": "5", "10 - (2 - 3)": "11", "7 div 2 * 2": "6",
		"-7 div 2": "-4", "-7 mod 2": "1", "7 div -2": "-4", "7 mod -2": "-1",
		"1 = 1": "1", "1 = 2": "0", "1 # 1": "0", "1 # 2": "1", "1 < 2": "1", "2 < 1": "0", "1 < 1": "0", "1 <= 1": "1", "2 <= 1": "0", "2 > 1": "1", "1 > 1": "0", "1 >= 1": "1", "1 >= 2": "0",
		"-5": "-5", "--5": "5", "not 0": "1", "not 7": "0", "not not 7": "1", "-(2 + 3)": "-5", "not (1 = 2)": "1",
		"3 and 5": "1", "3 and 0": "0", "0 and 5": "0", "0 or 0": "0", "3 or 0": "1", "0 or -2": "1", "1 and 2 and 3": "1", "0 or 0 or 4": "1", "0 or 2 and 0": "0", "1 + (2 and 3) * 2": "3",
		"x": "0", "t[1]": "0", "none()": "0", "late(late(9, 5, 1), 2, none() + 10)": "20",
	} {
		goes(t, "done "+want, around("write "+x+";"))
	}
}

// 5.1: parts are reckoned from the left, and no more of them than need be.
func TestFromTheLeft(t *testing.T) {
	for body, want := range map[string]string{
		"write n(1) + n(2) * n(3);":                         "done 1 2 3 7",
		"write (n(1) + n(2)) * n(3);":                       "done 1 2 3 9",
		"write late(n(5), n(2), n(4));":                     "done 5 2 4 12",
		"write x + up(1) * 10 + x;":                         "done 11",
		"write n(0) and n(1);":                              "done 0 0",
		"write n(2) and n(3);":                              "done 2 3 1",
		"write n(2) or n(3);":                               "done 2 1",
		"write n(0) or n(3);":                               "done 0 3 1",
		"write n(0) and 1 div 0;":                           "done 0 0",
		"write n(1) and 1 div 0;":                           "zero 1",
		"write n(1) or t[7];":                               "done 1 1",
		"write n(0) or t[7];":                               "bounds 0",
		"if n(0) and n(1) or n(2) and n(3) then n(4); end;": "done 0 2 3 4",
		"write n(1) div n(0) + n(5);":                       "zero 1 0",
		"write n(1) mod n(0) + n(5);":                       "zero 1 0",
		"write t[n(1) + n(4)] + n(2);":                      "bounds 1 4",
	} {
		goes(t, want, around(body))
	}
}

// 5.1: those of a procedure hide those of its module, but not those of others.
func TestNear(t *testing.T) {
	a := "module a; var x*: int; var t*: array 2; proc f*(p); var x; begin x := x + p; return x * 2; end; begin x := 5; t[1] := 6; end."
	goes(t, "done 5 7 6 8", a, "module m; import a; var x: int; var a: int; begin x := 7; a := a.f(4); write a.x; write x; write a.t[1]; write a; end.")
	goes(t, "done 3 5 0 4 9", a, "module m; import a; var x: int; var p: int; proc f(x, t); var a, p; begin x := x + 1; write x; write a.x; write a; a := 4; write a; p := 8; return t; end; begin x := 9; f(2, 3); write x + p; end.")
	goes(t, "done 10 1", a, "module m; import a; proc g(f); begin write a.f(f); return f; end; proc f(g); begin return 1; end; begin g(5); write f(2); end.")
	goes(t, "bounds 6", a, "module m; import a; var t: array 5; begin t[4] := 1; write a.t[t[4]]; write a.t[2]; end.")
	goes(t, "done 1 2", "module b; var x*: int; begin x := 1; end.", "module a; var x*: int; begin x := 2; end.", "module m; import a, b; begin write b.x; write a.x; end.")
}

// steps is in how many steps a module is loaded that ends.
func steps(t *testing.T, m api.Module) int {
	t.Helper()
	for n := range much {
		var w run.World
		if e, err := w.Load(m, n); err != nil || e.Way != api.Fuel {
			return n
		}
	}
	t.Fatalf("%+v does not end", m)
	return 0
}

// 5.2: within 4000 times n and one more instructions, and never in Stack: what is most for a step, and what waits deepest.
func TestWithin(t *testing.T) {
	nested := func(n int) string { return strings.Repeat("(1 = 2 + 3 * ", n) + "4" + strings.Repeat(")", n) }
	const nine = "1, 2, 3, 4, 5, 6, 7, 8, 9, "
	args := strings.Repeat("w("+nine+"1 = 2 + 3 * ", api.MaxDepth-2) + "w(" + nine + "v(k))" + strings.Repeat(")", api.MaxDepth-2)
	for _, s := range []string{
		around(""), around("return 1;"), around("write 1" + strings.Repeat(" or 0", 200) + ";"), around("write 0" + strings.Repeat(" or 0", 200) + ";"),
		around("write none()" + strings.Repeat(" + none()", 80) + ";"), around("write 0" + strings.Repeat(" or none()", 80) + ";"), around("while x < 9" + strings.Repeat(" and 1", 100) + " do x := x + 1; end;"),
		around("x := " + nested(api.MaxDepth) + ";"), around("t[" + nested(api.MaxDepth-1) + "] := " + nested(api.MaxDepth) + ";"),
		"module m; proc w(a, b, c, d, e, f, g, h, i, j); begin return a + j; end; proc v(k); begin if k < 28 then k := k + 1; return " + args + "; end; end; begin v(0); end.",
		"module m; proc w(a, b, c, d, e, f, g, h, i, j); begin return a + j; end; proc v(k); begin k := k + 1; return " + args + "; end; begin v(0); end.",
	} {
		m := reads(t, s)
		n := steps(t, m)
		var w run.World
		e, _ := w.Load(m, n)
		var in vm.Machine
		if c, err := in.Load(compiles(t, m, nil), within(n)); err != nil || shown(c) != shown(e) {
			t.Errorf("%s: %s within %d steps; code: %s, %v", s, shown(e), n, shown(c), err)
		}
	}
}

// 5.2: what does no step ends, too, when it is loaded and when it is called.
func TestWithinNoStep(t *testing.T) {
	o := compiles(t, reads(t, "module m; proc f*(p); var q; begin end; begin end."), nil)
	var in vm.Machine
	if e, err := in.Load(o, 1); err != nil || shown(e) != "done" {
		t.Errorf("load: %s, %v", shown(e), err)
	}
	if e, n, err := in.Call("m", "f", []int64{7}, within(0)); err != nil || shown(e) != "done" || n != 0 {
		t.Errorf("call: %s, %d, %v", shown(e), n, err)
	}
}
