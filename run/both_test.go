package run_test

import (
	"math"
	"testing"

	"marquetry/run"
)

const (
	least = math.MinInt64
	most  = math.MaxInt64
)

// 4.1: marks of two, with the document's examples, and where they wrap.
func TestBoth(t *testing.T) {
	for _, c := range []struct {
		op      string
		a, b, n int64
	}{
		{"+", 2, 3, 5}, {"+", most, 1, least}, {"+", least, -1, most}, {"+", least, least, 0},
		{"-", 2, 3, -1}, {"-", least, 1, most}, {"-", 0, least, least}, {"-", most, -1, least},
		{"*", -4, 3, -12}, {"*", most, 2, -2}, {"*", least, -1, least}, {"*", 1 << 32, 1 << 32, 0},
		{"div", -7, 2, -4}, {"mod", -7, 2, 1}, {"div", 7, -2, -4}, {"mod", 7, -2, -1},
		{"div", 7, 2, 3}, {"mod", 7, 2, 1}, {"div", -7, -2, 3}, {"mod", -7, -2, -1},
		{"div", -8, 2, -4}, {"mod", -8, 2, 0}, {"div", 8, -2, -4}, {"mod", 8, -2, 0}, {"div", 0, -5, 0}, {"mod", 0, -5, 0},
		{"div", -1, most, -1}, {"mod", -1, most, most - 1}, {"div", 1, least, -1}, {"mod", 1, least, least + 1},
		{"div", least, -1, least}, {"mod", least, -1, 0}, {"div", most, -1, -most}, {"mod", most, -1, 0},
		{"div", least, least, 1}, {"mod", least, least, 0}, {"div", most, least, -1}, {"mod", most, least, -1}, {"div", least, most, -2}, {"mod", least, most, most - 1},
		{"div", least, 1, least}, {"mod", least, 2, 0}, {"div", least, 3, -3074457345618258603}, {"mod", least, 3, 1},
	} {
		if n, ok := run.Both(c.op, c.a, c.b); n != c.n || !ok {
			t.Errorf("%d %s %d: %d, %v; want %d", c.a, c.op, c.b, n, ok, c.n)
		}
	}
}

// 4.1: marks that hold one against another.
func TestBothHolds(t *testing.T) {
	l := []int64{least, least + 1, -2, -1, 0, 1, 2, most - 1, most} // rising
	for i, a := range l {
		for k, b := range l {
			for op, is := range map[string]bool{"=": i == k, "#": i != k, "<": i < k, "<=": i <= k, ">": i > k, ">=": i >= k} {
				want := int64(0)
				if is {
					want = 1
				}
				if n, ok := run.Both(op, a, b); n != want || !ok {
					t.Errorf("%d %s %d: %d, %v; want %d", a, op, b, n, ok, want)
				}
			}
		}
	}
}

// 4.1: by 0: false; and no number beside it.
func TestBothByZero(t *testing.T) {
	for _, op := range []string{"div", "mod"} {
		for _, a := range []int64{least, -1, 0, 1, most} {
			if n, ok := run.Both(op, a, 0); n != 0 || ok {
				t.Errorf("%d %s 0: %d, %v; want 0, false", a, op, n, ok)
			}
		}
	}
}

// 4.1: quotient and rest are what they are called, and the rest has b's sign, or is 0.
func TestBothRest(t *testing.T) {
	d := die(1)
	for range 100_000 {
		a, b := drawnNumber(&d), drawnNumber(&d)
		if b == 0 {
			continue
		}
		q, one := run.Both("div", a, b)
		r, two := run.Both("mod", a, b)
		near := r == 0 || b > 0 && r > 0 && r < b || b < 0 && r < 0 && r > b
		if !one || !two || q*b+r != a || !near || (a != least || b != -1) && r == 0 && a/b != q {
			t.Fatalf("%d by %d: %d, %d", a, b, q, r)
		}
	}
}

// drawnNumber is a number, great or small.
func drawnNumber(d *die) int64 {
	n := int64(d.n(1<<31))<<33 ^ int64(d.n(1<<31))<<11 ^ int64(d.n(1<<31))
	return n >> d.n(64)
}

// 4.1: of any other op 0, and true.
func TestBothOfOthers(t *testing.T) {
	for _, op := range []string{"", "and", "or", "not", "==", ":=", "/", "%", "Div", "div ", " +", "++", "<>", "!=", "mods", "\x00", "é"} {
		for _, b := range []int64{0, 3} {
			if n, ok := run.Both(op, 7, b); n != 0 || !ok {
				t.Errorf("7 %q %d: %d, %v; want 0, true", op, b, n, ok)
			}
		}
	}
}
