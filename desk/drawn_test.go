package desk_test

import (
	"fmt"
	"maps"
	"strconv"
	"strings"
	"testing"

	"marquetry/api"
	"marquetry/desk"
	"marquetry/run"
	"marquetry/tree"
)

// value is a drawn expression, of what is in reach by that name, and of imports.
func value(d *die, imports []string, deep int) string {
	if deep == 0 {
		return d.of("x", "y", "0", "1", "2", "3", "-1", "100")
	}
	l, r := value(d, imports, deep-1), value(d, imports, deep-1)
	if len(imports) > 0 && d.n(3) == 0 {
		return imports[d.n(len(imports))] + d.of(".x", ".f("+l+")", ".t["+l+"]", ".f(1)", ".t[1]")
	}
	return d.of(l+" + "+r, l+" - "+r, l+" * "+r, l+" div "+r, l+" mod "+r, l+" < "+r, l+" = "+r, l+" and "+r, "-("+l+")", "not "+l, "t["+l+" mod 3]", "t["+l+"]", "f("+l+")")
}

// body are drawn statements.
func body(d *die, imports []string, deep int) string {
	s := ""
	for range d.n(4) {
		e := value(d, imports, d.n(3))
		switch d.n(7) {
		case 0, 1:
			s += d.of("x", "y") + " := " + e + "; "
		case 2:
			s += "t[" + d.of("0", "1", "2", "y mod 3", "x") + "] := " + e + "; "
		case 3, 4:
			s += "write " + e + "; "
		case 5:
			s += d.of("f("+e+"); ", "y := 0; while y < 3 do y := y + 1; end; ")
		default:
			if deep > 0 {
				s += "if " + e + " then " + body(d, imports, deep-1) + d.of("", "else "+body(d, imports, deep-1)) + "end; "
			}
		}
	}
	return s
}

// source is a drawn module of that name.
func source(d *die, name string, imports []string) string {
	s := "module " + name + "; "
	if len(imports) > 0 {
		s += "import " + strings.Join(imports, ", ") + "; "
	}
	return s + "var x" + d.of("*", "*", "*", "") + ": int; var y: int; var t*: array " + d.of("3", "3", "3", "4") + "; proc f*(p); begin " + body(d, imports, 2) + d.of("return p; ", "return "+value(d, imports, 1)+"; ") + "end; begin " + body(d, imports, 1) + "end."
}

// line is a drawn line.
func line(d *die) string {
	name := d.of("a", "a", "b", "c")
	switch d.n(12) {
	case 0, 1:
		return "put " + source(d, name, []string{"a", "b"}[:strings.Index("abc", name)])
	case 2, 3:
		return "build"
	case 4, 5:
		return "load " + name
	case 6:
		return "swap " + name
	case 7, 8:
		return "call " + name + " " + d.of("f", "f", "f", "g") + " " + d.of("0", "2", "-7", "2", "1 1")
	case 9:
		return "drop " + d.of("b", "c", "c", "zz")
	default:
		return "get " + name + " " + d.of("x", "y", "t", "f")
	}
}

// meant holds what lines told against modules as they are meant.
type meant struct {
	sources, built map[string]api.Module
	world          run.World
	seen           map[string]int // how many lines of which first words were held against it
}

// number is which error a line told; 0: none.
func number(told string) api.Errno {
	text, ok := strings.CutPrefix(told, "error ")
	if !ok {
		return api.OK
	}
	n, _ := strconv.Atoi(text)
	return api.Errno(n)
}

// fits holds one line against what it means: false, if nothing more can be said of this session.
func (m *meant) fits(t *testing.T, line, told string) bool {
	words := strings.Fields(line)
	wrong := number(told)
	var want string
	var err error
	switch words[0] {
	case "put":
		var source api.Module
		if source, err = tree.Parse(line[len("put "):]); err == nil {
			m.sources[source.Name] = source
			want = "put " + source.Name
		}
	case "drop":
		if _, there := m.sources[words[1]]; there {
			want = "drop"
		} else {
			err = api.ErrMissing
		}
		delete(m.sources, words[1])
	case "build":
		if strings.HasPrefix(told, "build") {
			m.built = maps.Clone(m.sources)
		}
		want = told
	case "load", "swap":
		source, there := m.built[words[1]]
		if !there {
			err = api.ErrMissing
		} else if wrong != 0 {
			return true // who does not fit is told by what it needs, not by what it means
		} else if words[0] == "swap" {
			err, want = m.world.Swap(source), "swap"
		} else {
			var end api.End
			end, err = m.world.Load(source, 1000000)
			want = spoken("load", append([]int64{int64(end.Way)}, end.Out...)...)
		}
	case "call":
		var args []int64
		for _, w := range words[3:] {
			args = append(args, map[string]int64{"0": 0, "1": 1, "2": 2, "-7": -7}[w])
		}
		end, n, e := m.world.Call(words[1], words[2], args, 1000000)
		err, want = e, spoken("call", append([]int64{n, int64(end.Way)}, end.Out...)...)
	case "get":
		l, e := m.world.Get(words[1], words[2])
		err, want = e, spoken("get", l...)
	}
	if strings.HasPrefix(told, "load 5") || strings.HasPrefix(told, "call 0 5") {
		return false // how far it came hangs on how it is built
	}
	if wrong != api.Tell(err) || wrong == 0 && told != want {
		t.Errorf("%s: %q; want %q, %v", line, told, want, err)
	}
	if wrong == 0 {
		m.seen[words[0]]++
	} else {
		m.seen["error"]++
	}
	return true
}

// spoken is a word, and numbers.
func spoken(word string, numbers ...int64) string {
	return strings.TrimSpace(word + " " + strings.Trim(fmt.Sprint(numbers), "[]"))
}

// 11.1, 4 of the whole: whatever is put, built, loaded, called and put in others' place, lines tell what is meant.
func TestDrawn(t *testing.T) {
	d := die(11)
	seen := map[string]int{}
	for range 5000 {
		var lines []string
		size := 0
		for range 8 + d.n(40) {
			if l := line(&d); size+len(l) < api.MaxText {
				lines = append(lines, l)
				size += len(l) + 1
			}
		}
		told := strings.Split(desk.Session(strings.Join(lines, "\n")), "\n")
		if len(told) != len(lines)+1 {
			t.Fatalf("%q: %q", lines, told)
		}
		m := meant{sources: map[string]api.Module{}, seen: seen}
		for i, l := range lines {
			if !m.fits(t, l, told[i]) {
				break
			}
		}
		if t.Failed() {
			t.Fatalf("%s", strings.Join(lines, "\n"))
		}
	}
	for word, least := range map[string]int{"put": 3000, "build": 3000, "load": 1000, "swap": 500, "call": 500, "get": 500, "drop": 300, "error": 1000} {
		if seen[word] < least {
			t.Errorf("only %d of %s", seen[word], word)
		}
	}
}
