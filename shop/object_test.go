package shop_test

import (
	"fmt"
	"reflect"
	"slices"
	"testing"

	"marquetry/api"
	"marquetry/shop"
	"marquetry/vm"
)

// sources are modules of texts, by their names.
func sources(t *testing.T, texts ...string) map[string]api.Module {
	t.Helper()
	m := map[string]api.Module{}
	for _, s := range texts {
		x := reads(t, s)
		m[x.Name] = x
	}
	return m
}

// loaded loads all that is built into a machine, and asks how the last one ended.
func loaded(t *testing.T, s *shop.Shop, what, want string) *vm.Machine {
	t.Helper()
	var v vm.Machine
	last := "none"
	for _, name := range s.Names() {
		e, err := v.Load(object(t, s, name), 100_000)
		if err != nil {
			t.Fatalf("%s: %s: %v; want none", what, name, err)
		}
		last = shown(e)
	}
	if last != want {
		t.Errorf("%s: %s; want %s", what, last, want)
	}
	return &v
}

// 10.1: Object: as 5.1 tells of the source that was built, whatever was put since.
func TestObject(t *testing.T) {
	var s shop.Shop
	puts(t, &s, textA, textB)
	builds(t, &s, "both", "a b")
	among := sources(t, textA, textB)
	puts(t, &s, "module a; var t*: array 4; begin end.", "module b; begin end.", textC())
	for _, name := range []string{"a", "b"} {
		isOf(t, object(t, &s, name), among[name], among)
	}
	hasNot(t, &s, "put, not built", "c")
	hasNot(t, &s, "no such source", "", "A", "zz", " a", "\xff")
	loaded(t, &s, "as built", "done 13")
	builds(t, &s, "others", "a b c")
	among = sources(t, "module a; var t*: array 4; begin end.", "module b; begin end.", textC())
	for name, m := range among {
		isOf(t, object(t, &s, name), m, among)
	}
}

// 10.1: what is not built anew fits what is.
func TestObjectFits(t *testing.T) {
	var s shop.Shop
	puts(t, &s, textA, textB)
	builds(t, &s, "both", "a b")
	puts(t, &s, "module a; var more*: int; var t*: array 3; var x*: int; proc g*(); begin end; proc f*(p); begin return x + p; end; begin x := 1; t[1] := 2; end.")
	builds(t, &s, "a alone", "a")
	loaded(t, &s, "b with another a", "done 5")
	puts(t, &s, "module a; var x*: int; var t*: array 2; proc f*(p); begin return 9; end; begin end.")
	builds(t, &s, "t is seen otherwise", "a b")
	v := loaded(t, &s, "both anew", "done 9")
	puts(t, &s, "module a; var x*: int; var t*: array 2; proc f*(p); begin return 8; end; begin write 3; end.")
	builds(t, &s, "a alone", "a")
	if err := v.Swap(object(t, &s, "a")); err != nil {
		t.Errorf("swap: %v; want none", err)
	}
	if e, n, err := v.Call("a", "f", []int64{1}, 1000); shown(e) != "done" || n != 8 || err != nil {
		t.Errorf("%s, %d, %v; want done, 8", shown(e), n, err)
	}
}

// P4: an object is the caller's: what is written into it is not seen by anyone else.
func TestObjectIsTheCallers(t *testing.T) {
	var s shop.Shop
	puts(t, &s, textA, textB)
	builds(t, &s, "both", "a b")
	was := all(t, &s)
	for _, name := range []string{"a", "b"} {
		o, p := object(t, &s, name), object(t, &s, name)
		spoil(o)
		if now := all(t, &s); now != was {
			t.Fatalf("%s\nit was\n%s", now, was)
		}
		if reflect.DeepEqual(o, p) || !reflect.DeepEqual(p, object(t, &s, name)) {
			t.Errorf("%s: %+v beside %+v", name, o, p)
		}
	}
	builds(t, &s, "written into, not put", "")
	loaded(t, &s, "written into", "done 13")
}

// spoil writes into all of an object, and behind what it has.
func spoil(o *api.Object) {
	for i := range o.Uses {
		clear(o.Uses[i].Names[:cap(o.Uses[i].Names)])
	}
	o.Name = "zz"
	clear(o.Syms[:cap(o.Syms)])
	clear(o.Uses[:cap(o.Uses)])
	clear(o.Vars[:cap(o.Vars)])
	clear(o.Procs[:cap(o.Procs)])
	clear(o.Names[:cap(o.Names)])
	clear(o.Code[:cap(o.Code)])
}

// P4: names are the caller's, and the same each time.
func TestNamesAreTheCallers(t *testing.T) {
	for range 30 {
		var s shop.Shop
		puts(t, &s, "module a; import d; begin end.", "module b; import a, c; begin end.", "module c; begin end.", "module d; begin end.", "module a1; begin end.")
		l, _, _ := s.Build()
		if want := []string{"a1", "c", "d", "a", "b"}; !slices.Equal(l, want) {
			t.Fatalf("%v; want %v", l, want)
		}
		clear(l[:cap(l)])
		n := s.Names()
		clear(n[:cap(n)])
		has(t, &s, "written into", "a1 c d a b")
		builds(t, &s, "written into", "")
	}
}

// P4: shops have nothing in common.
func TestShopsApart(t *testing.T) {
	var s, other shop.Shop
	puts(t, &s, textA, textB)
	builds(t, &other, "the other one", "")
	builds(t, &s, "one", "a b")
	has(t, &other, "the other one", "")
	puts(t, &other, "module a; begin write 7; end.")
	builds(t, &other, "the other one", "a")
	loaded(t, &other, "the other one", "done 7")
	loaded(t, &s, "one", "done 13")
	wrong(t, "the other one", other.Drop("b"), api.ErrMissing, -1)
}

// Limits: a shop goes on as long as it is asked, and grows no more than its sources do.
func TestManyBuilds(t *testing.T) {
	var s shop.Shop
	for i := range 3000 {
		name := fmt.Sprint("m", i)
		puts(t, &s, textA, textB, fmt.Sprintf("module %s; import a, b; begin write a.x + b.x + %d; end.", name, i))
		want := name
		if i == 0 {
			want = "a b m0"
		}
		builds(t, &s, name, want)
		has(t, &s, name, "a b "+name)
		drops(t, &s, name)
	}
}
