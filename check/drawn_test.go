package check_test

import (
	"slices"
	"strconv"
	"strings"
	"testing"

	"marquetry/api"
	"marquetry/check"
	"marquetry/sym"
	"marquetry/tree"
)

// drawnName is a name, nearly always one that stands for something somewhere.
func drawnName(d *die) string {
	if d.n(40) == 0 {
		return d.of("zz", "m", "a")
	}
	return d.of("x", "x", "x", "x", "x", "x", "y", "p", "q")
}

// drawnExpr is an expression's text, so deep.
func drawnExpr(d *die, deep int) string {
	if deep == 0 {
		return d.of("1", "2", drawnName(d), d.of("a", "a", "a", "b", "c")+".x")
	}
	x, y := drawnExpr(d, deep-1), drawnExpr(d, d.n(deep))
	of := d.of("", "", "", "a.", "b.")
	return d.of(x, x, x, "-"+x, "not "+x, "("+x+")", x+" + "+y, x+" or "+y, of+"t["+x+"]", of+"g()", of+"f("+x+")", of+"h("+x+", "+y+")", of+d.of("f", "g", "h", "t", "x")+"("+x+")")
}

// drawnStmts are statements' texts, so deep.
func drawnStmts(d *die, deep int) string {
	s := ""
	for range d.n(4) {
		x, inner := drawnExpr(d, d.n(3)), ""
		if deep > 0 {
			inner = drawnStmts(d, deep-1)
		}
		s += d.of(drawnName(d)+" := "+x, "t["+x+"] := "+drawnExpr(d, 1), d.of("", "a.")+"f("+x+")", "return "+x, "write "+x, "while "+x+" do "+inner+"end", "if "+x+" then "+inner+"end", "if 1 then elsif "+x+" then "+inner+"else "+inner+"end") + "; "
	}
	return s
}

// drawnModule is a module's text. Most of what it names is there, mostly.
func drawnModule(d *die, name string) string {
	star := func() string { return d.of("*", "*", "*", "") }
	s := "module " + name + "; " + d.of("", "import a; ", "import b, a; ", "import a, b; ", "import a, b, c; ", "import c, a, b; ", "import a, b, c; ", "import b, c, a; ", d.of("import c, a, c; ", "import a, m; "))
	s += "var x" + star() + ": int; var t" + star() + ": array " + strconv.Itoa(1+d.n(2)) + "; "
	s += d.of("var y: int; ", "var y: int; ", "var y: int; ", "var y: int; ", "var y: int; ", "var y: int; ", "var y: array 2; ", "", "var x: int; ")
	for _, head := range []string{"g" + star() + "()", "f" + star() + "(p)", "h" + star() + "(p, q)"} {
		own := d.of("", "", "", "", "var y; ", "var r, x; ", "var f; ", "var q; ")
		s += "proc " + head + "; " + own + "begin " + drawnStmts(d, 1) + "end; "
	}
	return s + d.of("", "", "", "", "", "", "", "proc x(); begin end; ") + "begin " + drawnStmts(d, 1) + "end."
}

// word is a token of a text, and where it stands.
type word struct {
	s  string
	at int
}

// words are a text's tokens, and some empty ones behind.
func words(s string) []word {
	var l []word
	for i := 0; i < len(s); {
		j := i
		for j < len(s) && strings.IndexByte("abcdefghijklmnopqrstuvwxyz0123456789", s[j]) >= 0 {
			j++
		}
		if j == i {
			j++
		}
		if s[i] != ' ' {
			l = append(l, word{s[i:j], i})
		}
		i = j
	}
	return append(l, word{}, word{}, word{})
}

// names are the words of a list, up to the one that ends it, and how many words there were.
func names(l []word, end string) (found []string, n int) {
	for ; l[n].s != end; n++ {
		if l[n].s != "," {
			found = append(found, l[n].s)
		}
	}
	return found, n
}

// looker goes over a text's words, as one would who never built a tree.
type looker struct {
	l       []word
	seen    map[string][]api.Sym
	imports []string
	global  map[string]api.Sym
	own     []string
}

// argsAt counts what stands in the ( ) that begin there.
func (k *looker) argsAt(i int) int {
	n, deep := 1, 0
	for j := i; ; j++ {
		switch k.l[j].s {
		case "(", "[":
			deep++
		case ")", "]":
			deep--
			if deep == 0 && j == i+1 {
				return 0
			}
			if deep == 0 {
				return n
			}
		case ",":
			if deep == 1 {
				n++
			}
		}
	}
}

// standsFor is what the name there stands for.
func (k *looker) standsFor(of, name string) (api.Sym, api.Errno) {
	if of != "" {
		if !slices.Contains(k.imports, of) {
			return api.Sym{}, api.ErrName
		}
		for _, x := range k.seen[of] {
			if x.Name == name {
				return x, api.OK
			}
		}
		return api.Sym{}, api.ErrMissing
	}
	if slices.Contains(k.own, name) {
		return api.Sym{Args: -1}, api.OK
	}
	if x, ok := k.global[name]; ok {
		return x, api.OK
	}
	return api.Sym{}, api.ErrMissing
}

// ref looks at the name at i: which error, and where the next one may stand.
func (k *looker) ref(i int) (api.Errno, int) {
	of := ""
	if k.l[i+1].s == "." {
		of = k.l[i].s
		i += 2
	}
	x, e := k.standsFor(of, k.l[i].s)
	proc, array := x.Args >= 0, x.Len > 0
	next := k.l[i+1].s
	switch {
	case e != api.OK:
		return e, 0
	case proc != (next == "("), !proc && array != (next == "["):
		return api.ErrArg, 0
	case proc && k.argsAt(i+1) != x.Args:
		return api.ErrRange, 0
	}
	return api.OK, i + 1
}

// body looks at names from there on, as far as the next procedure, or begin of the module, or the text's end.
func (k *looker) body(i int) (api.Errno, int, int) {
	for k.l[i].s != "" {
		s := k.l[i].s
		if s == "proc" || s == "begin" {
			break
		}
		if s[0] < 'a' || s[0] > 'z' || strings.Contains(" or and div mod not return write while do end if then elsif else ", " "+s+" ") {
			i++
			continue
		}
		e, next := k.ref(i)
		if e != api.OK {
			return e, k.l[i].at, 0
		}
		i = next
	}
	return api.OK, -1, i
}

// heads looks at imports, and at what the module has; which error, its place, and where procedures begin.
func (k *looker) heads(name string) (api.Errno, int, int) {
	i := 3
	if k.l[i].s == "import" {
		l, n := names(k.l[i+1:], ";")
		for _, s := range l {
			if s == name || slices.Contains(k.imports, s) {
				return api.ErrOrder, -1, 0
			}
			if _, ok := k.seen[s]; !ok {
				return api.ErrNone, -1, 0
			}
			k.imports = append(k.imports, s)
		}
		i += n + 2
	}
	for first, j := true, i; j < len(k.l); j++ {
		x, place := api.Sym{Args: -1}, k.l[j].at
		switch {
		case k.l[j].s == "var" && first:
			place = k.l[j+1].at
			if c := j + 2; k.l[c].s == "*" || k.l[c+1].s == "array" {
				for k.l[c].s != ":" {
					c++
				}
				x.Len, _ = strconv.Atoi(k.l[c+2].s) // of an int it is a ;, and 0
			}
		case k.l[j].s == "proc":
			first = false
			c := j + 2
			for k.l[c].s != "(" {
				c++
			}
			x.Args = k.argsAt(c)
		case k.l[j].s == "begin":
			first = false
			continue
		default:
			continue
		}
		if _, ok := k.global[k.l[j+1].s]; ok {
			return api.ErrTwice, place, 0
		}
		k.global[k.l[j+1].s] = x
	}
	for k.l[i].s != "proc" && k.l[i].s != "begin" {
		i++
	}
	return api.OK, -1, i
}

// whole looks at all of a text: which error, and its place.
func (k *looker) whole(name string) (api.Errno, int) {
	e, place, i := k.heads(name)
	for e == api.OK && k.l[i].s == "proc" {
		at := k.l[i].at
		for k.l[i].s != "(" {
			i++
		}
		var n int
		k.own, n = names(k.l[i+1:], ")")
		for i += n + 1; k.l[i].s != "begin"; i++ {
			if k.l[i].s == "var" {
				l, _ := names(k.l[i+1:], ";")
				k.own = append(k.own, l...)
			}
		}
		slices.Sort(k.own)
		if len(slices.Compact(slices.Clone(k.own))) < len(k.own) {
			return api.ErrTwice, at
		}
		e, place, i = k.body(i + 1)
		k.own = nil
	}
	if e == api.OK {
		e, place, _ = k.body(i + 1)
	}
	return e, place
}

// 3.1, of drawn modules: what is found is what one finds who reads the text word by word.
func TestDrawn(t *testing.T) {
	d := die(4)
	found := map[api.Errno]int{}
	for many := 0; many < 6000; {
		seen := map[string][]api.Sym{}
		for _, name := range []string{"a", "b", "c"} {
			if m, err := tree.Parse(drawnModule(&d, name)); err == nil && d.n(12) > 0 {
				seen[name] = sym.Of(m)
			}
		}
		s := drawnModule(&d, "m")
		m, err := tree.Parse(s)
		if err != nil {
			continue // drawn too long
		}
		many++
		k := looker{l: words(s), seen: seen, global: map[string]api.Sym{}}
		want, place := k.whole("m")
		found[want]++
		told(t, s, check.Check(m, seen), want, place)
		if t.Failed() {
			t.Fatalf("seen: %+v", seen)
		}
	}
	for _, e := range []api.Errno{api.OK, api.ErrOrder, api.ErrNone, api.ErrTwice, api.ErrName, api.ErrMissing, api.ErrArg, api.ErrRange} {
		if found[e] < 100 {
			t.Errorf("error %d was found only %d times", e, found[e])
		}
	}
}
