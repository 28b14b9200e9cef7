package desk_test

import (
	"fmt"
	"strings"
	"testing"

	"marquetry/api"
)

// 11.1: `put`: the name; words make a text with one blank between them.
func TestPut(t *testing.T) {
	tells(t,
		"put module a; begin end.", "put a",
		"put module   abcdefghij  ;  begin  end  .", "put abcdefghij",
		"put module b;import a;var x*:int;begin x:=a.y;end.", "put b",
		"put module a; begin write 1; end.", "put a",
		"names", "names")
}

// 11.1: `put`: Put's errors, by their numbers alone.
func TestPutErrors(t *testing.T) {
	for text, want := range map[string]string{
		"":                                      "error 3",
		" ":                                     "error 3",
		"a":                                     "error 3",
		"module a; begin end":                   "error 3",
		"module a; begin end. module":           "error 3",
		"module a;\tbegin end.":                 "error 3",
		"mod ule a; begin end.":                 "error 3",
		"module a; begin write 1:= 2; end.":     "error 3",
		"module abcdefghijk; begin end.":        "error 4",
		"module a; var x: array 31; begin end.": "error 4",
		"module a; var x: array 0; begin end.":  "error 2",
		"module a; begin " + strings.Repeat("write 1; ", api.MaxTokens/3) + "end.": "error 4",
	} {
		tells(t, "put "+text, want, "names", "names", "build", "build", "print", "error 8")
	}
}

// 11.1: `put`: ErrFull; what is there may be put anew.
func TestPutFull(t *testing.T) {
	var lines []string
	for i := range api.MaxModules {
		lines = append(lines, fmt.Sprintf("put module m%d; begin end.", i), fmt.Sprintf("put m%d", i))
	}
	lines = append(lines,
		"put module n; begin end.", "error 12",
		"put module abcdefghijk; begin end.", "error 4",
		"print", "print module m9;|begin|end.|",
		"put module m3; begin write 3; end.", "put m3",
		"build", "build m0 m1 m2 m3 m4 m5 m6 m7 m8 m9",
		"drop m5", "drop",
		"put module n; begin end.", "put n",
		"put module m5; begin end.", "error 12",
		"build", "build n",
		"names", "names m0 m1 m2 m3 m4 m6 m7 m8 m9 n")
	tells(t, lines...)
}

// 11.1: `drop`: Drop's error; the word.
func TestDrop(t *testing.T) {
	tells(t,
		"drop a", "error 7",
		putA, "put a",
		"drop b", "error 7",
		"drop A", "error 7",
		"drop a", "drop",
		"drop a", "error 7",
		putA, "put a", putB, "put b", "build", "build a b",
		"drop b", "drop",
		"drop b", "error 7",
		"names", "names a b",
		"whole b", "whole true",
		"build", "build",
		"names", "names a",
		"whole b", "error 7")
}

// 11.1: `build`: names, in order, of those that were built anew.
func TestBuild(t *testing.T) {
	tells(t,
		"build", "build",
		putB, "put b", putA, "put a", "put module c; import b; begin end.", "put c",
		"names", "names",
		"build", "build a b c",
		"names", "names a b c",
		"build", "build",
		putA, "put a",
		"build", "build",
		"put module a; var x*: int; var t*: array 3; proc f*(q); begin end; begin end.", "put a",
		"build", "build a",
		"put module a; var x*: int; var t*: array 4; proc f*(q); begin end; begin end.", "put a",
		"build", "build a b",
		"drop c", "drop",
		"build", "build",
		"names", "names a b")
}

// 11.1: `build`: `wrong`, the error's number, and the source's name, if there is one.
func TestBuildWrong(t *testing.T) {
	for text, want := range map[string]string{
		"module a; import a; begin end.":                                         "wrong 11",
		"module a; import zz; begin end.":                                        "wrong 8 a",
		"module a; import b, b; begin end.":                                      "wrong 10 a",
		"module a; var x: int; var x: int; begin end.":                           "wrong 9 a",
		"module a; begin write zz.x; end.":                                       "wrong 5 a",
		"module a; begin write x; end.":                                          "wrong 7 a",
		"module a; import b; begin write b.y; end.":                              "wrong 7 a",
		"module a; var x: int; begin write x[0]; end.":                           "wrong 1 a",
		"module a; proc f(p); begin end; begin f(); end.":                        "wrong 2 a",
		"module abcdefghij; begin write x; end.":                                 "wrong 7 abcdefghij",
		"module a; import c; begin end.\nput module c; import a; begin end.":     "wrong 11",
		"module c; begin write y; end.\nput module a; import c; begin x:=1;end.": "wrong 7 c",
	} {
		lines := []string{"put module b; var x*: int; begin x := 7; end.", "put b", "build", "build b"}
		for text := range strings.SplitSeq("put "+text, "\n") {
			name, _, _ := strings.Cut(strings.TrimPrefix(text, "put module "), ";")
			lines = append(lines, text, "put "+name)
		}
		tells(t, append(lines, "build", want, "names", "names b", "whole b", "whole true", "build", want)...)
	}
	// Nothing is built of what is wrong, and what was built stays.
	tells(t, putA, "put a", "build", "build a",
		"put module a; begin x := 1; end.", "put a",
		"build", "wrong 7 a",
		"load a", "load 1", "get a x", "get 5",
		putB, "put b", "build", "wrong 7 a", "load b", "error 7",
		putA, "put a", "build", "build b", "load b", "load 1 1 -1")
}

// 11.1: `names`: all that are built, in order.
func TestNames(t *testing.T) {
	tells(t,
		"names", "names",
		"put module z; begin end.", "put z", "put module b; import z; begin end.", "put b", "put module a; import b; begin end.", "put a", "put module m; begin end.", "put m",
		"names", "names",
		"build", "build m z b a",
		"names", "names m z b a",
		"load z", "load 1",
		"drop a", "drop", "drop z", "drop",
		"names", "names m z b a",
		"build", "wrong 8 b",
		"names", "names m z b a",
		"drop b", "drop", "build", "build",
		"names", "names m")
}

// 11.1: `print`: ErrNone: nothing was put; what was put last, each line feed as a bar.
func TestPrint(t *testing.T) {
	tells(t,
		"print", "error 8",
		"put module a begin end.", "error 3",
		"print", "error 8",
		"put module a;begin end.", "put a",
		"print", "print module a;|begin|end.|",
		"put module b; import a, c; var x*: int; var t: array 7; proc f*(p,q); var l; begin if p then write (1+2)*q; elsif l then return -p; end; end; begin t[0] := b.x; end.", "put b",
		"print", "print module b;|import a, c;|var x*: int;|var t: array 7;|proc f*(p, q);|var l;|begin|  if p then|    write (1 + 2) * q;|  else|    if l then|      return -p;|    end;|  end;|end;|begin|  t[0] := b.x;|end.|",
		"put module b; begin ? end.", "error 3",
		"drop b", "drop",
		"build", "build a",
		"print", "print module b;|import a, c;|var x*: int;|var t: array 7;|proc f*(p, q);|var l;|begin|  if p then|    write (1 + 2) * q;|  else|    if l then|      return -p;|    end;|  end;|end;|begin|  t[0] := b.x;|end.|",
		"put module a; begin write 1; end.", "put a",
		"print", "print module a;|begin|  write 1;|end.|",
		"drop a", "drop",
		"print", "print module a;|begin|  write 1;|end.|")
}

// 11.1: `syms`: what others see of what was put last, each line feed as a bar; of nothing they see nothing.
func TestSyms(t *testing.T) {
	tells(t,
		"syms", "syms ",
		"put module a begin end.", "error 3",
		"syms", "syms ",
		"put module a; var x: int; proc f(); begin end; begin end.", "put a",
		"syms", "syms ",
		"put module b; var y*: int; var x: int; var t*: array 30; proc f*(a, b); begin end; proc a*(); begin end; begin end.", "put b",
		"syms", "syms proc a 0|proc f 2|array t 30|int y|",
		"put module c; var x*: int; begin", "error 3",
		"build", "build a b",
		"drop b", "drop",
		"syms", "syms proc a 0|proc f 2|array t 30|int y|",
		"put module a; var x*: int; begin end.", "put a",
		"syms", "syms int x|")
}

// 11.1: `sum`: of the text, in decimal digits.
func TestSum(t *testing.T) {
	tells(t,
		"sum", "sum 2166136261",
		"sum    ", "sum 2166136261",
		"sum a", "sum 3826002220",
		"sum abc", "sum 440920331",
		"  sum    abc  ", "sum 440920331",
		"sum x y", "sum 3402250132",
		"sum x     y", "sum 3402250132",
		"sum foobar", "sum 3214735720",
		"sum module  a;   begin end.", "sum 830139487",
		"sum sum", "sum 3712891560",
		"sum \xff", "sum 2047574606")
}

// 11.1: `whole`: Object's error; whether what is written of an object is read as it was.
func TestWhole(t *testing.T) {
	tells(t,
		"whole a", "error 7",
		putA, "put a", putB, "put b",
		"whole a", "error 7",
		"build", "build a b",
		"whole a", "whole true", "whole b", "whole true", "whole c", "error 7", "whole A", "error 7",
		"put module a; begin end.", "put a", "whole a", "whole true", "build", "wrong 7 b", "whole a", "whole true",
		"drop b", "drop", "build", "build a", "whole a", "whole true", "whole b", "error 7")
}
