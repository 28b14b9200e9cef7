package obj_test

import (
	"math"
	"strings"
	"testing"

	"marquetry/api"
	"marquetry/obj"
)

// Example 6.
func TestExample(t *testing.T) {
	s := writes(t, &api.Object{Name: "m", Code: []api.Inst{{Op: api.Push, A: -3}, {Op: api.Halt}}})
	if want := string([]byte{2, 109, 0, 0, 0, 0, 4, 2, 5, 0, 34, 0, 0}); s != want {
		t.Errorf("%v; want %v", []byte(s), []byte(want))
	}
}

// 6.2: all there is, byte by byte.
func TestBytes(t *testing.T) {
	o := &api.Object{
		Name:  "mod",
		Syms:  []api.Sym{{Name: "f", Args: 1}, {Name: "t", Len: 30, Args: -1}},
		Uses:  []api.Use{{Name: "a", Need: "int x\n", Names: []string{"x", "yy"}}, {Name: "b"}},
		Vars:  []api.Global{{Name: "t", Len: 30, Seen: true}, {Name: "u"}},
		Procs: []api.Entry{{At: 1, Args: 1, Locals: 10}},
		Names: []string{"f"},
		Code:  []api.Inst{{Op: api.Halt}, {Op: api.Get, A: 1, B: -1}, {Op: api.Push, A: 64}, {Op: api.Leave}},
	}
	want := "\x06mod" +
		"\x04" + "\x02f\x00\x02" + "\x02t\x3c\x01" +
		"\x04" + "\x02a\x0cint x\n\x04\x02x\x04yy" + "\x02b\x00\x00" +
		"\x04" + "\x02t\x3c\x01" + "\x02u\x00\x00" +
		"\x02" + "\x02f" + "\x02\x02\x14" +
		"\x08" + "\x22\x00\x00" + "\x0a\x02\x01" + "\x02\x80\x01\x00" + "\x1e\x00\x00"
	if s := writes(t, o); s != want {
		t.Errorf("%q; want %q", s, want)
	}
}

// pushes is an object of which a number's bytes stand from 8 on, up to the last four.
func pushes(n int64) *api.Object {
	return &api.Object{Name: "m", Code: []api.Inst{{Op: api.Push, A: n}, {Op: api.Halt}}}
}

// 6.2: a NUMBER n is 2n, or, below 0, -2n - 1, seven bits a byte, the least ones first.
func TestNumbers(t *testing.T) {
	for n, want := range map[int64]string{
		0: "\x00", -1: "\x01", 1: "\x02", -2: "\x03", 63: "\x7e", -64: "\x7f", 64: "\x80\x01", -65: "\x81\x01", 8191: "\xfe\x7f", -8192: "\xff\x7f", 8192: "\x80\x80\x01", -8193: "\x81\x80\x01",
		1 << 62: "\x80\x80\x80\x80\x80\x80\x80\x80\x80\x01", math.MaxInt64: "\xfe\xff\xff\xff\xff\xff\xff\xff\xff\x01", math.MinInt64: "\xff\xff\xff\xff\xff\xff\xff\xff\xff\x01", 1<<61 - 1: "\xfe\xff\xff\xff\xff\xff\xff\xff\x3f",
	} {
		s := writes(t, pushes(n))
		if got := s[8 : len(s)-4]; got != want {
			t.Errorf("%d: %q; want %q", n, got, want)
		}
	}
	d := die(1)
	for range 10_000 {
		n := int64(d.n(1<<31))<<33 ^ int64(d.n(1<<31))<<11 ^ int64(d.n(1<<31))
		writes(t, pushes(n>>d.n(64)))
	}
}

// 6.2: what Write does not tell so is no NUMBER: noughts ahead, more than 64 bits.
func TestNoNumbers(t *testing.T) {
	s := writes(t, pushes(0))
	for _, by := range []string{
		"\x80\x00", "\x80\x80\x00", "\x81\x00", "\xff\x00", "\x80\x80\x80\x80\x80\x80\x80\x80\x80\x00",
		"\x80\x80\x80\x80\x80\x80\x80\x80\x80\x02", "\xff\xff\xff\xff\xff\xff\xff\xff\xff\x03", "\xff\xff\xff\xff\xff\xff\xff\xff\xff\x7f", "\x80\x80\x80\x80\x80\x80\x80\x80\x80\x80\x01", "\x82\x80\x80\x80\x80\x80\x80\x80\x80\x80\x00",
		strings.Repeat("\x80", 100_000) + "\x00", strings.Repeat("\xff", 100_000) + "\x01",
	} {
		misread(t, "a NUMBER", s[:8]+by+s[9:])
	}
	// Nor is it where something is counted, or named.
	for i, c := range []byte(s) {
		if i == 1 {
			continue // the name's letter
		}
		misread(t, "longer", replaced(s, i, 1, c|128, 0))
		misread(t, "great", s[:i]+"\xfe\xff\xff\xff\xff\xff\xff\xff\xff\x01"+s[i+1:]+strings.Repeat("a", 1000))
		if i != 8 {
			misread(t, "below 0", replaced(s, i, 1, 1))
		}
	}
}

// 6.2: a part is none; nor is what has more behind it.
func TestParts(t *testing.T) {
	s := writes(t, whole())
	for i := range len(s) {
		misread(t, "a part", s[:i])
		if i > 0 {
			misread(t, "a part", s[i:])
		}
	}
	for i := range 256 {
		misread(t, "more", s+string([]byte{byte(i)}))
		misread(t, "more ahead", string([]byte{byte(i)})+s)
	}
	misread(t, "twice", s+s)
}

// 6.2: a FLAG is a byte, 1 or 0.
func TestFlags(t *testing.T) {
	s := writes(t, &api.Object{Name: "m", Vars: []api.Global{{Name: "x", Seen: true}}, Code: []api.Inst{{Op: api.Halt}}})
	const at = 8 // 2 m, 0, 0, 2, 2 x, 0, and then it
	for i := range 256 {
		got := replaced(s, at, 1, byte(i))
		o, err := obj.Parse(got)
		if i > 1 {
			misread(t, "a flag", got)
		} else if err != nil || o.Vars[0].Seen != (i == 1) {
			t.Errorf("%d: %+v, %v", i, o, err)
		}
	}
	misread(t, "two bytes", replaced(s, at, 1, 129, 0))
}

// 6.2: how much is told to come is not believed.
func TestMuch(t *testing.T) {
	great := "\xfe\xff\xff\xff\xff\xff\xff\xff\xff\x01"
	for _, ahead := range []string{"", "\x02m", "\x02m\x00", "\x02m\x00\x00", "\x02m\x00\x00\x00", "\x02m\x00\x00\x00\x00", "\x02m\x00\x02", "\x02m\x00\x02\x02a", "\x02m\x00\x02\x02a\x00"} {
		for _, many := range []string{great, "\xfe\xff\xff\xff\x0f", "\xff\xff\xff\xff\xff\xff\xff\xff\xff\x01", "\x01", "\x80\x7d"} {
			misread(t, "much", ahead+many)
			misread(t, "much", ahead+many+strings.Repeat("\x02a\x00\x02", 20_000))
		}
	}
	misread(t, "nothing", "")
}

// drawn is an object, most of which is right.
func drawn(d *die) *api.Object {
	o := whole()
	name := func() string { return []string{"a", "b", "xy", "abcdefghij", "f9"}[d.n(5)] }
	for range d.n(4) {
		o.Syms = append(o.Syms, api.Sym{Name: name(), Len: d.n(32), Args: -1})
		o.Uses = append(o.Uses, api.Use{Name: name(), Need: strings.Repeat("int a\n", d.n(30)), Names: []string{name(), name()}[:d.n(3)]})
		o.Vars = append(o.Vars, api.Global{Name: name(), Len: d.n(31), Seen: d.n(2) == 0})
	}
	for range d.n(30) {
		o.Code = append(o.Code, api.Inst{Op: 1 + d.n(17), A: int64(d.n(4)) - 1, B: int64(d.n(4)/3) - 1 + int64(d.n(8)/7)})
	}
	for i := range o.Code {
		if x := &o.Code[i]; d.n(60) > 0 && !fits(*x) {
			*x = api.Inst{Op: api.Push, A: int64(d.n(1<<31)) >> d.n(31) * int64(d.n(3)-1)}
		}
	}
	o.Code = append(o.Code, api.Inst{Op: []int{api.Halt, api.Leave, api.Jump}[d.n(3)]})
	return o
}

// 6.1, 6.2: drawn objects are written, if they are right, and read as they were.
func TestDrawn(t *testing.T) {
	d := die(2)
	right := 0
	for range 5000 {
		o := drawn(&d)
		if obj.Right(o) {
			right++
			writes(t, o)
		} else {
			refuses(t, "drawn", o)
		}
	}
	if right < 1000 || right > 4900 {
		t.Errorf("%d were right", right)
	}
}

// 6.2: of bytes that are others here and there, Parse tells the object of which Write tells just these, or ErrForm.
func TestDrawnBytes(t *testing.T) {
	d := die(3)
	read := 0
	for range 15_000 {
		s := encoded(drawn(&d))
		for range 1 + d.n(3) {
			at := d.n(len(s))
			switch d.n(3) {
			case 0:
				s = replaced(s, at, 1, byte(d.n(256)))
			case 1:
				s = replaced(s, at, 1, s[at]^byte(1<<d.n(8)))
			case 2:
				s = replaced(s, at, d.n(2), []byte{0, 1, 2, 128, 255}[:d.n(3)]...)
			}
		}
		o, err := obj.Parse(s)
		if err != nil {
			misread(t, "drawn", s)
			continue
		}
		read++
		if got := writes(t, o); got != s {
			t.Fatalf("%q: %+v, which is %q", s, o, got)
		}
	}
	if read < 300 {
		t.Errorf("only %d were read", read)
	}
}

// P4: nothing that is handed in is written into, and what comes out is the caller's.
func TestFreshMemory(t *testing.T) {
	o := whole()
	s, _ := obj.Write(o)
	one, _ := obj.Parse(s)
	two, _ := obj.Parse(s)
	for _, p := range []*api.Object{one, o} {
		clear(p.Syms)
		clear(p.Uses[0].Names)
		clear(p.Uses)
		clear(p.Vars)
		clear(p.Procs)
		clear(p.Names)
		clear(p.Code)
	}
	if s != encoded(whole()) || shown(two) != shown(whole()) {
		t.Errorf("%q, %+v", s, two)
	}
}
