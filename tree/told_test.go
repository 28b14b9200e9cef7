package tree_test

import (
	"errors"
	"reflect"
	"slices"
	"strings"
	"testing"

	"marquetry/api"
	"marquetry/plain"
	"marquetry/tree"
)

// marked is a text without the digits and letters in brackets that mark its places, and these.
func marked(s string) (string, map[string]int) {
	at := map[string]int{}
	text := ""
	for {
		i := strings.Index(s, "{")
		if i < 0 {
			return text + s, at
		}
		text += s[:i]
		j := strings.Index(s, "}")
		at[s[i+1:j]] = len(text)
		s = s[j+1:]
	}
}

// 1.2: what stands ahead of statements.
func TestToldOfModules(t *testing.T) {
	s, at := marked("module m; import b, a, b;\nvar {x}x*: int; var {y}y: int; var {t}t *: array 3; var {u}u: array 030;\n{p}proc p*(b, a); var d, c; begin end; {q}proc q(); begin write 1; end; {r} proc  r(z); begin end; begin end.")
	m := reads(t, s)
	want := api.Module{
		Name: "m", Imports: []string{"b", "a", "b"},
		Vars: []api.Global{{Name: "x", At: at["x"], Seen: true}, {Name: "y", At: at["y"]}, {Name: "t", At: at["t"], Len: 3, Seen: true}, {Name: "u", At: at["u"], Len: 30}},
		Procs: []api.Proc{
			{Name: "p", At: at["p"], Seen: true, Params: []string{"b", "a"}, Vars: []string{"d", "c"}},
			{Name: "q", At: at["q"], Body: []api.Stmt{{Code: api.Write, At: strings.Index(s, "write"), Value: &api.Expr{Code: api.Num, At: strings.Index(s, "1;"), N: 1}}}},
			{Name: "r", At: at["r"] + 1, Params: []string{"z"}},
		},
	}
	if !reflect.DeepEqual(m, want) {
		t.Errorf("%+v; want %+v", m, want)
	}
	if m := reads(t, "module only; begin end."); m.Name != "only" || len(m.Imports)+len(m.Vars)+len(m.Procs)+len(m.Body) != 0 {
		t.Errorf("%+v", m)
	}
}

// 1.2: each statement, and where it begins.
func TestToldOfStatements(t *testing.T) {
	s, at := marked("module m; begin {set}x := {1}1; {item}t[{i}i] := {2}2; {call}f({3}3); {far}m.f(); {return}return {4}4; {write}write {5}5; {while}while {6}6 do {in}write {7}7; end; {if}if {8}8 then {then}write {9}9; else {else}write {0}0; end; end.")
	num := func(n int64) *api.Expr {
		return &api.Expr{Code: api.Num, At: at[string(rune('0'+n))], N: n}
	}
	write := func(where string, n int64) api.Stmt {
		return api.Stmt{Code: api.Write, At: at[where], Value: num(n)}
	}
	want := []api.Stmt{
		{Code: api.Set, At: at["set"], Name: "x", Value: num(1)},
		{Code: api.Set, At: at["item"], Name: "t", Index: &api.Expr{Code: api.Var, At: at["i"], Name: "i"}, Value: num(2)},
		{Code: api.Call, At: at["call"], Value: &api.Expr{Code: api.Apply, At: at["call"], Name: "f", Args: []*api.Expr{num(3)}}},
		{Code: api.Call, At: at["far"], Value: &api.Expr{Code: api.Apply, At: at["far"], Module: "m", Name: "f"}},
		{Code: api.Return, At: at["return"], Value: num(4)},
		write("write", 5),
		{Code: api.While, At: at["while"], Value: num(6), Then: []api.Stmt{write("in", 7)}},
		{Code: api.If, At: at["if"], Value: num(8), Then: []api.Stmt{write("then", 9)}, Else: []api.Stmt{write("else", 0)}},
	}
	if got := reads(t, s).Body; !reflect.DeepEqual(got, want) {
		t.Errorf("%+v; want %+v", got, want)
	}
}

// 1.2: an elsif is the only If in Else, At at elsif.
func TestToldOfElsif(t *testing.T) {
	s, at := marked("module m; begin {if}if {1}1 then {a}write {2}2; {e}elsif {3}3 then {f}elsif {4}4 then {b}write {5}5; else {c}write {6}6; end; {d}write {7}7; {g}if {8}8 then else end; end.")
	num := func(n int64) *api.Expr {
		return &api.Expr{Code: api.Num, At: at[string(rune('0'+n))], N: n}
	}
	write := func(where string, n int64) []api.Stmt {
		return []api.Stmt{{Code: api.Write, At: at[where], Value: num(n)}}
	}
	last := api.Stmt{Code: api.If, At: at["f"], Value: num(4), Then: write("b", 5), Else: write("c", 6)}
	middle := api.Stmt{Code: api.If, At: at["e"], Value: num(3), Else: []api.Stmt{last}}
	want := []api.Stmt{
		{Code: api.If, At: at["if"], Value: num(1), Then: write("a", 2), Else: []api.Stmt{middle}},
		write("d", 7)[0],
		{Code: api.If, At: at["g"], Value: num(8)},
	}
	if got := reads(t, s).Body; !reflect.DeepEqual(got, want) {
		t.Errorf("%+v; want %+v", got, want)
	}
}

// 1.2: each expression, and where its first token stands.
func TestToldOfExpressions(t *testing.T) {
	s, at := marked("module m; begin write {n}007; write {v}v; write {w}a.w; write {t}t[{i}1]; write {u}a.u[{j}2]; write {f}f(); write {g}a.g({x}3, {y}4); write {neg}-{k}5; write {not}not {l}6; write {p}7 {q}+ {r}8; write ({s}9); end.")
	num := func(where string, n int64) *api.Expr { return &api.Expr{Code: api.Num, At: at[where], N: n} }
	want := []*api.Expr{
		num("n", 7),
		{Code: api.Var, At: at["v"], Name: "v"},
		{Code: api.Var, At: at["w"], Module: "a", Name: "w"},
		{Code: api.Item, At: at["t"], Name: "t", Left: num("i", 1)},
		{Code: api.Item, At: at["u"], Module: "a", Name: "u", Left: num("j", 2)},
		{Code: api.Apply, At: at["f"], Name: "f"},
		{Code: api.Apply, At: at["g"], Module: "a", Name: "g", Args: []*api.Expr{num("x", 3), num("y", 4)}},
		{Code: api.Un, At: at["neg"], Op: "-", Left: num("k", 5)},
		{Code: api.Un, At: at["not"], Op: "not", Left: num("l", 6)},
		{Code: api.Bin, At: at["p"], Op: "+", Left: num("p", 7), Right: num("r", 8)},
		num("s", 9),
	}
	for i, got := range reads(t, s).Body {
		if !reflect.DeepEqual(got.Value, want[i]) {
			t.Errorf("%d: %+v; want %+v", i, got.Value, want[i])
		}
	}
}

// 1.2: of ( ) the place of what is in them; of two with a mark between that of the first token, a ( too.
func TestPlaceInBrackets(t *testing.T) {
	for _, c := range []string{
		"|x", "(|x)", "((|x))", "|-(x)", "|f((x))", "|x + (y)", "(|x + y)", "((|x + (y)))",
		"|(x) + y", "|((x)) + y", "|((x + y) * 2) - 1", "|(f(x)) = 1", "|(not x) or y",
		"(|(x) + y)", "((|((x)) + y))", "|(x) * y + 3 = 4 or z",
	} {
		s := "module m; begin write " + c + "; end."
		place := strings.Index(s, "|")
		if got := reads(t, strings.Replace(s, "|", "", 1)).Body[0].Value.At; got != place {
			t.Errorf("%s: %d; want %d", c, got, place)
		}
	}
}

// 1.2: within two with a mark between, each has its own first token.
func TestPlacesWithinBrackets(t *testing.T) {
	x := value(t, "(1) + ((2) * (3))")
	l := []int{x.Left.At - x.At, x.Right.At - x.At, x.Right.Left.At - x.At, x.Right.Right.At - x.At}
	if !slices.Equal(l, []int{1, 7, 8, 14}) {
		t.Errorf("(1) + ((2) * (3)): %v behind the first token", l)
	}
	x = value(t, "((1) * 2 - 3) = f((4) + 5)")
	l = []int{x.Left.At - x.At, x.Left.Left.At - x.At, x.Left.Left.Left.At - x.At, x.Right.Args[0].At - x.At, x.Right.Args[0].Left.At - x.At}
	if !slices.Equal(l, []int{1, 1, 2, 18, 19}) {
		t.Errorf("((1) * 2 - 3) = f((4) + 5): %v behind the first token", l)
	}
}

// 1.1, 1.2: levels, from the left.
func TestLevels(t *testing.T) {
	for in, want := range map[string]string{
		"a or b or c":               "{{a or b} or c}",
		"a or b and c":              "{a or {b and c}}",
		"a and b or c":              "{{a and b} or c}",
		"a and b = c":               "{a and {b = c}}",
		"a = b # c < d":             "{{{a = b} # c} < d}",
		"a <= b > c >= d":           "{{{a <= b} > c} >= d}",
		"a < b + c":                 "{a < {b + c}}",
		"a - b - c + d":             "{{{a - b} - c} + d}",
		"a + b * c":                 "{a + {b * c}}",
		"a * b div c mod d":         "{{{a * b} div c} mod d}",
		"a mod b - c * d":           "{{a mod b} - {c * d}}",
		"-a * b":                    "{{- a} * b}",
		"- - a - -b":                "{{- {- a}} - {- b}}",
		"not a = b":                 "{{not a} = b}",
		"not -not a and b":          "{{not {- {not a}}} and b}",
		"a - (b - c)":               "{a - {b - c}}",
		"(a or b) and c":            "{{a or b} and c}",
		"-(a + b)":                  "{- {a + b}}",
		"((a))":                     "a",
		"a or b and c = d + e * f":  "{a or {b and {c = {d + {e * f}}}}}",
		"a * b + c = d and e or f":  "{{{{{a * b} + c} = d} and e} or f}",
		"m.t[a or b] + f(c, d * e)": "{m.t[{a or b}] + f(c {d * e})}",
	} {
		if got := shape(value(t, in)); got != want {
			t.Errorf("%s: %s; want %s", in, got, want)
		}
	}
}

// 1.1: each mark of two against each other one.
func TestLevelOfEachMark(t *testing.T) {
	var marks []string
	level := map[string]int{}
	for i, l := range []string{"or", "and", "= # < <= > >=", "+ -", "* div mod"} {
		for _, op := range strings.Fields(l) {
			marks, level[op] = append(marks, op), i
		}
	}
	for _, a := range marks {
		for _, b := range marks {
			want := "{{x " + a + " y} " + b + " z}"
			if level[b] > level[a] {
				want = "{x " + a + " {y " + b + " z}}"
			}
			if got := shape(value(t, "x "+a+" y "+b+" z")); got != want {
				t.Errorf("%s; want %s", got, want)
			}
		}
	}
}

// P2, P3: with an error there is no module, and there is one At, about an Errno.
func TestErrors(t *testing.T) {
	for s, want := range map[string]api.At{
		"":                       {Err: api.ErrForm, Place: 0},
		"module m; begin x := 1": {Err: api.ErrForm, Place: 22},
		"module m; import a; var x: int; proc f(); begin end; begin write 1; !": {Err: api.ErrForm, Place: 68},
		"module m; var a: array 31;":                     {Err: api.ErrLimit, Place: 23},
		"module m; var a: array 0;":                      {Err: api.ErrRange, Place: 24},
		"module m; import a; begin write 1; end. module": {Err: api.ErrForm, Place: 40},
	} {
		m, err := tree.Parse(s)
		if !reflect.DeepEqual(m, api.Module{}) {
			t.Errorf("%q: %+v beside an error", s, m)
		}
		var e api.Errno
		var at *api.At
		if !errors.As(err, &e) || !errors.As(err, &at) || e != want.Err || *at != want {
			t.Errorf("%q: %v; want %+v", s, err, want)
		}
		if e, place := plain.Place(err); e != want.Err || place != want.Place {
			t.Errorf("%q: from outside %d, %d; want %+v", s, e, place, want)
		}
	}
}

// P4: what was told is the caller's, and is told anew each time.
func TestFresh(t *testing.T) {
	s := "module m; import a; var x: int; proc f(a, b); var c; begin write a + 1; end; begin t[1] := f(1, 2); if 1 then write 1; elsif 2 then write 2; end; end."
	one, two := reads(t, s), reads(t, s)
	if !reflect.DeepEqual(one, two) {
		t.Fatal("told otherwise")
	}
	one.Imports[0], one.Vars[0].Name, one.Procs[0].Params[0], one.Procs[0].Vars[0] = "z", "z", "z", "z"
	one.Procs[0].Body[0].Value.Op, one.Body[0].Value.Args[0], one.Body[1].Else[0].Code = "z", nil, 0
	_ = append(one.Procs[0].Params[:1], "z")
	if !reflect.DeepEqual(two, reads(t, s)) {
		t.Error("what was told before is changed")
	}
}
