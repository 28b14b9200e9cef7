package desk

import (
	"strconv"
	"strings"

	"marquetry/api"
	"marquetry/obj"
	"marquetry/shop"
	"marquetry/sym"
	"marquetry/tree"
	"marquetry/vm"
)

// fuel is how many instructions one line may do.
const fuel = 1_000_000

// desk is what a session has.
type desk struct {
	shop    shop.Shop
	machine vm.Machine
	last    api.Module // what was put last, also if it was dropped since
	wasPut  bool       // whether anything was put
}

// object is what is built of a source.
func (d *desk) object(name string) *api.Object {
	o, err := d.shop.Object(name)
	throw(err)
	return o
}

func (d *desk) put(words []string) string {
	text := strings.Join(words, " ")
	name, err := d.shop.Put(text)
	throw(err)
	m, err := tree.Parse(text) // the shop hands no source out
	throw(err)
	d.last, d.wasPut = m, true
	return "put " + name
}

func (d *desk) drop(words []string) string {
	throw(d.shop.Drop(words[0]))
	return "drop"
}

func (d *desk) build(_ []string) string {
	names, in, err := d.shop.Build()
	if err == nil {
		return named("build", names)
	}
	wrong := counted("wrong", int64(api.Tell(err)))
	if in == "" {
		return wrong
	}
	return wrong + " " + in
}

func (d *desk) load(words []string) string {
	end, err := d.machine.Load(d.object(words[0]), fuel)
	throw(err)
	return counted(counted("load", int64(end.Way)), end.Out...)
}

func (d *desk) swap(words []string) string {
	throw(d.machine.Swap(d.object(words[0])))
	return "swap"
}

func (d *desk) call(words []string) string {
	end, n, err := d.machine.Call(words[0], words[1], numbers(words[2:]), fuel)
	throw(err)
	return counted(counted("call", n, int64(end.Way)), end.Out...)
}

func (d *desk) get(words []string) string {
	l, err := d.machine.Get(words[0], words[1])
	throw(err)
	return counted("get", l...)
}

func (d *desk) names(_ []string) string { return named("names", d.shop.Names()) }

func (d *desk) print(_ []string) string {
	if !d.wasPut {
		throw(api.ErrNone)
	}
	return "print " + barred(tree.Print(d.last))
}

// syms is no error where nothing was put: others see nothing of that.
func (d *desk) syms(_ []string) string { return "syms " + barred(sym.Print(sym.Of(d.last))) }

func (d *desk) sum(words []string) string {
	return counted("sum", int64(sym.Sum(strings.Join(words, " "))))
}

func (d *desk) whole(words []string) string {
	bytes, err := obj.Write(d.object(words[0]))
	throw(err)
	again, err := obj.Parse(bytes)
	throw(err)
	same, err := obj.Write(again)
	throw(err)
	return "whole " + strconv.FormatBool(same == bytes)
}

func (d *desk) help(_ []string) string { return help }
