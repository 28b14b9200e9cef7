package tree_test

import (
	"errors"
	"reflect"
	"strings"
	"testing"

	"marquetry/api"
	"marquetry/tree"
)

// drawnExpr is an expression, so deep.
func drawnExpr(d *die, deep int) *api.Expr {
	ref := api.Expr{Name: d.of("x", "y9", "abcdefghij"), Module: d.of("", "", "m")}
	if deep == 0 {
		if d.n(2) == 0 {
			return &api.Expr{Code: api.Num, N: int64(d.n(1000))}
		}
		ref.Code = api.Var
		return &ref
	}
	switch d.n(6) {
	case 0:
		ref.Code, ref.Left = api.Item, drawnExpr(d, deep-1)
		return &ref
	case 1:
		ref.Code = api.Apply
		for range d.n(3) {
			ref.Args = append(ref.Args, drawnExpr(d, deep-1))
		}
		return &ref
	case 2:
		return &api.Expr{Code: api.Un, Op: d.of("-", "not"), Left: drawnExpr(d, deep-1)}
	case 3:
		return drawnExpr(d, 0)
	}
	op := d.of("or", "and", "=", "#", "<", "<=", ">", ">=", "+", "-", "*", "div", "mod")
	return &api.Expr{Code: api.Bin, Op: op, Left: drawnExpr(d, deep-1), Right: drawnExpr(d, deep-1)}
}

// drawnStmts are statements, so deep.
func drawnStmts(d *die, deep int) []api.Stmt {
	var l []api.Stmt
	for range d.n(4) {
		s := api.Stmt{Code: d.n(6) + 1, Value: drawnExpr(d, d.n(4))}
		switch s.Code {
		case api.Set:
			s.Name = d.of("x", "t")
			if d.n(2) == 0 {
				s.Index = drawnExpr(d, 1)
			}
		case api.Call:
			s.Value = &api.Expr{Code: api.Apply, Name: "f", Module: d.of("", "m"), Args: []*api.Expr{s.Value}}
		case api.If, api.While:
			if deep == 0 {
				continue
			}
			s.Then = drawnStmts(d, deep-1)
			if s.Code == api.If {
				s.Else = drawnStmts(d, deep-1)
			}
		}
		l = append(l, s)
	}
	return l
}

// drawnModule is a module of all that there is.
func drawnModule(d *die) api.Module {
	m := api.Module{Name: d.of("a", "m2")}
	for range d.n(3) {
		m.Imports = append(m.Imports, d.of("a", "b"))
	}
	for range d.n(4) {
		m.Vars = append(m.Vars, api.Global{Name: d.of("x", "t"), Len: d.n(2) * (1 + d.n(api.MaxArray)), Seen: d.n(2) == 0})
	}
	for range d.n(3) {
		c := api.Proc{Name: d.of("f", "g"), Seen: d.n(2) == 0, Body: drawnStmts(d, 1)}
		for range d.n(3) {
			c.Params = append(c.Params, d.of("p", "q"))
		}
		for range d.n(3) {
			c.Vars = append(c.Vars, d.of("p", "q"))
		}
		m.Procs = append(m.Procs, c)
	}
	m.Body = drawnStmts(d, 2)
	return m
}

// What is written is read as it was; and what is read is written so again.
func TestReadAsWritten(t *testing.T) {
	d := die(1)
	read := 0
	for range 3000 {
		m := drawnModule(&d)
		s := tree.Print(m)
		got, err := tree.Parse(s)
		if api.Tell(err) == api.ErrLimit {
			continue // drawn too long, or too deep
		}
		read++
		if err != nil || !reflect.DeepEqual(bareModule(got), bareModule(m)) {
			t.Fatalf("%s\n%v, %+v", s, err, got)
		}
		if again := tree.Print(got); again != s {
			t.Fatalf("%s\nthen\n%s", s, again)
		}
	}
	if read < 2000 {
		t.Errorf("only %d were read", read)
	}
}

// 1.3: no pair of brackets of an expression may be left out.
func TestNoBracketTooMany(t *testing.T) {
	d := die(2)
	pairs := 0
	for range 3000 {
		x := drawnExpr(&d, 3)
		s := tree.Text(x)
		if got := shape(value(t, s)); got != shape(x) {
			t.Fatalf("%s: %s; want %s", s, got, shape(x))
		}
		for i := range len(s) {
			if s[i] != '(' || i > 0 && s[i-1] != ' ' && s[i-1] != '(' && s[i-1] != '-' && s[i-1] != '[' {
				continue // of a call
			}
			j := i + closing(s[i:])
			m, err := tree.Parse("module m; begin write " + s[:i] + " " + s[i+1:j] + " " + s[j+1:] + "; end.")
			if err == nil && shape(m.Body[0].Value) == shape(x) {
				t.Fatalf("%s: the brackets at %d may be left out", s, i)
			}
			pairs++
		}
	}
	if pairs < 1000 {
		t.Errorf("only %d pairs", pairs)
	}
}

// closing is where the bracket closes with which a text begins.
func closing(s string) int {
	open := 0
	for i := range len(s) {
		switch s[i] {
		case '(':
			open++
		case ')':
			open--
			if open == 0 {
				return i
			}
		}
	}
	return -1
}

// 1.2: each expression stands where its first token is.
func TestPlaces(t *testing.T) {
	d := die(3)
	for range 500 {
		s := "module m; begin write " + tree.Text(drawnExpr(&d, 4)) + "; end."
		m, err := tree.Parse(s)
		if err != nil {
			continue
		}
		stands(t, s, m.Body[0].Value)
	}
}

// stands asks that an expression, and all in it, begins in a text where it is said to. (Text writes each part as it stands in the whole.)
func stands(t *testing.T, s string, x *api.Expr) {
	t.Helper()
	if x == nil {
		return
	}
	if !strings.HasPrefix(s[x.At:], tree.Text(x)) {
		t.Fatalf("%s: %s is not at %d", s, tree.Text(x), x.At)
	}
	stands(t, s, x.Left)
	stands(t, s, x.Right)
	for _, a := range x.Args {
		stands(t, s, a)
	}
}

// P1, 1.1: whatever the text, Parse ends; and it is refused where it is wrong: what stands ahead could go on, and what stands behind makes no difference.
func TestDrawnTexts(t *testing.T) {
	d := die(4)
	words := strings.Split("module import var proc begin end int array return write while do if then elsif else or and not div mod x y f m 0 1 31 99999999999999999999 := <= >= # = < > + - * ( ) [ ] , ; : . abcdefghijk", " ")
	refused := 0
	for range 20_000 {
		l := strings.Fields(spaced(tree.Print(drawnModule(&d))))
		for range d.n(4) {
			i := d.n(len(l))
			l[i] = words[d.n(len(words))]
		}
		s := strings.Join(l[:d.n(len(l))+1], " ")
		_, err := tree.Parse(s)
		if err == nil {
			continue
		}
		refused++
		var at *api.At
		if !errors.As(err, &at) || at.Place < 0 || at.Place > len(s) {
			t.Fatalf("%q: %v", s, err)
		}
		if _, err := tree.Parse(s[:at.Place]); err != nil && !ends(err, at.Place) {
			t.Fatalf("%q at %d: what stands ahead is wrong: %v", s, at.Place, err)
		}
		if at.Place == len(s) {
			continue
		}
		rest := strings.SplitAfterN(s[at.Place:], " ", 2)[0]
		var other *api.At
		if _, err := tree.Parse(s[:at.Place] + rest + "; x"); !errors.As(err, &other) || *other != *at {
			t.Fatalf("%q: %+v; with another end %+v", s, at, other)
		}
	}
	if refused < 5000 {
		t.Errorf("only %d were refused", refused)
	}
}

// ends says whether an error stands at a text's end.
func ends(err error, end int) bool {
	var at *api.At
	return errors.As(err, &at) && at.Place == end
}

// spaced is a text with blanks about each mark, so that it may be cut there.
func spaced(s string) string {
	return strings.NewReplacer(":=", " := ", "<=", " <= ", ">=", " >= ", "#", " # ", "=", " = ", "<", " < ", ">", " > ", "+", " + ", "-", " - ", "*", " * ", "(", " ( ", ")", " ) ", "[", " [ ", "]", " ] ", ",", " , ", ";", " ; ", ":", " : ", ".", " . ").Replace(s)
}

// P1: bytes of any kind.
func TestDrawnBytes(t *testing.T) {
	d := die(5)
	for range 20_000 {
		b := []byte(tree.Print(drawnModule(&d)))
		for range d.n(3) {
			b[d.n(len(b))] = byte(d.n(256))
		}
		s := string(b)
		m, err := tree.Parse(s)
		if err != nil && !reflect.DeepEqual(m, api.Module{}) {
			t.Fatalf("%q: %+v beside an error", s, m)
		}
		if err == nil {
			if again, err := tree.Parse(tree.Print(m)); err != nil && api.Tell(err) != api.ErrLimit || err == nil && !reflect.DeepEqual(bareModule(again), bareModule(m)) {
				t.Fatalf("%q: %v", s, err)
			}
		}
	}
}
