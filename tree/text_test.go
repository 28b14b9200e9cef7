package tree_test

import (
	"reflect"
	"strings"
	"testing"

	"marquetry/api"
	"marquetry/tree"
)

// 1.3: blanks, and brackets just where they must be.
func TestText(t *testing.T) {
	for in, want := range map[string]string{
		"007":                  "7",
		"9223372036854775807":  "9223372036854775807",
		"0":                    "0",
		"x":                    "x",
		"a . x":                "a.x",
		"t [ 1+2 ]":            "t[1 + 2]",
		"a.t[ (x) ]":           "a.t[x]",
		"f( )":                 "f()",
		"a.f( x,y , 1+2 )":     "a.f(x, y, 1 + 2)",
		"- x":                  "-x",
		"- - x":                "--x",
		"not x":                "not x",
		"not(x)":               "not x",
		"not not-x":            "not not -x",
		"-not x":               "-not x",
		"-(-(x))":              "--x",
		"-(x+1)":               "-(x + 1)",
		"not(x*y)":             "not (x * y)",
		"-(x or y)":            "-(x or y)",
		"-f(x)":                "-f(x)",
		"-(t[x])":              "-t[x]",
		"(-x)*y":               "-x * y",
		"x*(-y)":               "x * -y",
		"x- -y":                "x - -y",
		"x-(not y)":            "x - not y",
		"(not x)=y":            "not x = y",
		"(a-b)-c":              "a - b - c",
		"a-(b-c)":              "a - (b - c)",
		"a+(b+c)":              "a + (b + c)",
		"a+(b-c)+d":            "a + (b - c) + d",
		"(a*b)+c":              "a * b + c",
		"a+(b*c)":              "a + b * c",
		"(a+b)*c":              "(a + b) * c",
		"a*(b+c)":              "a * (b + c)",
		"a div(b mod c)":       "a div (b mod c)",
		"(a div b)mod c":       "a div b mod c",
		"a*(b div c)":          "a * (b div c)",
		"(a=b)=c":              "a = b = c",
		"a=(b<c)":              "a = (b < c)",
		"a<=b":                 "a <= b",
		"(a>=b)#(c>d)":         "a >= b # (c > d)",
		"(a and b)or(c and d)": "a and b or c and d",
		"a and(b or c)":        "a and (b or c)",
		"a or(b or c)":         "a or (b or c)",
		"a and(b and c)":       "a and (b and c)",
		"(a or b)or c":         "a or b or c",
		"(a or b)=c":           "(a or b) = c",
		"f((a or b),(c))":      "f(a or b, c)",
		"t[(a or b)]+(f((1)))": "t[a or b] + f(1)",
		"((a+b))*((c))":        "(a + b) * c",
	} {
		if got := tree.Text(value(t, in)); got != want {
			t.Errorf("%s: %s; want %s", in, got, want)
		}
	}
}

// 1.3: a pair of any two marks of two, on either side, is read as it was, and has brackets just where it would be read otherwise without.
func TestBracketsByLevels(t *testing.T) {
	marks := strings.Fields("or and = # < <= > >= + - * div mod")
	for _, a := range marks {
		for _, b := range marks {
			for _, side := range []string{"(x " + a + " y) " + b + " z", "x " + a + " (y " + b + " z)"} {
				x := value(t, side)
				flat := strings.NewReplacer("(", "", ")", "").Replace(side)
				want := side
				if shape(value(t, flat)) == shape(x) {
					want = flat
				}
				if got := tree.Text(x); got != want {
					t.Errorf("%s: %s; want %s", side, got, want)
				}
			}
		}
		for _, u := range []string{"-", "not "} {
			if got, want := tree.Text(value(t, u+"(x "+a+" y)")), u+"(x "+a+" y)"; got != want {
				t.Errorf("%s; want %s", got, want)
			}
			if got, want := tree.Text(value(t, "("+u+"x) "+a+" ("+u+"y)")), u+"x "+a+" "+u+"y"; got != want {
				t.Errorf("%s; want %s", got, want)
			}
		}
	}
}

// 1.3: Print, a line each.
func TestPrint(t *testing.T) {
	in := "module m;import a,b;var x*:int;var y:int;var t*:array 03;var u:array 30;" +
		"proc f*(a,b);var c,d;begin c:=(a)+b;t[c]:=1;f(1,2);a.g();return c;end;proc g();begin end;" +
		"begin while x<3 do x:=x+1;if x then write x;while 1 do end;else write 1;write 2;end;end;" +
		"if 1 then elsif 2 then write 3;elsif 4 then else write 5;end;if 1 then else end;if 1 then else if 2 then end;write 6;end;end."
	want := `module m;
import a, b;
var x*: int;
var y: int;
var t*: array 3;
var u: array 30;
proc f*(a, b);
var c, d;
begin
  c := a + b;
  t[c] := 1;
  f(1, 2);
  a.g();
  return c;
end;
proc g();
begin
end;
begin
  while x < 3 do
    x := x + 1;
    if x then
      write x;
      while 1 do
      end;
    else
      write 1;
      write 2;
    end;
  end;
  if 1 then
  else
    if 2 then
      write 3;
    else
      if 4 then
      else
        write 5;
      end;
    end;
  end;
  if 1 then
  end;
  if 1 then
  else
    if 2 then
    end;
    write 6;
  end;
end.
`
	if got := tree.Print(reads(t, in)); got != want {
		t.Errorf("%s\nwant\n%s", got, want)
	}
	if got, want := tree.Print(reads(t, "module m; begin end.")), "module m;\nbegin\nend.\n"; got != want {
		t.Errorf("%q; want %q", got, want)
	}
}

// P1: what Parse never told is written somehow, too.
func TestTextOfAnything(t *testing.T) {
	if got := tree.Text(nil); got != "" {
		t.Errorf("%q", got)
	}
	for code := -1; code < 9; code++ {
		tree.Text(&api.Expr{Code: code, Op: "no"})
		tree.Text(&api.Expr{Code: api.Bin, Left: &api.Expr{Code: code}, Args: []*api.Expr{nil}})
		tree.Print(api.Module{Body: []api.Stmt{{Code: code}}, Procs: []api.Proc{{}}, Vars: []api.Global{{Len: -1}}})
	}
}

// P1: what is put together of what Parse told may lie in much more.
func TestTextOfDeepThings(t *testing.T) {
	x := value(t, "1")
	for range 60_000 {
		x = &api.Expr{Code: api.Bin, Op: "-", Left: value1(), Right: x}
	}
	want := strings.Repeat("1 - (", 59_999) + "1 - 1" + strings.Repeat(")", 59_999)
	if got := tree.Text(x); got != want {
		t.Errorf("%d bytes; want %d", len(got), len(want))
	}
}

func value1() *api.Expr { return &api.Expr{Code: api.Num, N: 1} }

// P4: nothing that is handed in is written into.
func TestPrintKeeps(t *testing.T) {
	s := "module m; import a; var x: int; proc f(a, b); var c; begin write a + 1; end; begin t[1] := f(1, 2); if 1 then write 1; else write 2; end; end."
	m, same := reads(t, s), reads(t, s)
	if tree.Print(m) != tree.Print(m) || !reflect.DeepEqual(m, same) {
		t.Error("changed")
	}
}
