package tree_test

import (
	"strings"
	"testing"

	"marquetry/api"
)

// names are so many names with commas between.
func names(n int) string { return strings.TrimSuffix(strings.Repeat("a, ", n), ", ") }

// 1.1: names.
func TestLongNames(t *testing.T) {
	for _, ten := range []string{"abcdefghij", "a123456789"} {
		for _, s := range []string{
			"module |@; begin end.", "module m; import |@; begin end.", "module m; import a, |@; begin end.", "module m; var |@: int; begin end.",
			"module m; proc |@(); begin end; begin end.", "module m; proc p(|@); begin end; begin end.", "module m; proc p(); var b, |@; begin end; begin end.",
			"module m; begin |@ := 1; end.", "module m; begin |@[1] := 1; end.", "module m; begin |@(); end.", "module m; begin |@.f(); end.", "module m; begin a.|@(); end.",
			"module m; begin x := |@; end.", "module m; begin x := |@.y; end.", "module m; begin x := y.|@; end.", "module m; begin x := |@[1]; end.", "module m; begin x := |@(); end.",
		} {
			reads(t, strings.NewReplacer("@", ten, "|", "").Replace(s))
			fails(t, strings.ReplaceAll(s, "@", ten+"k"), api.ErrLimit)
			fails(t, strings.ReplaceAll(s, "@", ten+"0"), api.ErrLimit)
		}
	}
}

// 1.1: numbers of expressions, and of arrays.
func TestGreatNumbers(t *testing.T) {
	for _, s := range []string{"9223372036854775807", "0009223372036854775807", "0", "007"} {
		reads(t, "module m; begin x := "+s+"; end.")
	}
	for _, s := range []string{"9223372036854775808", "9223372036854775810", "9999999999999999999", "18446744073709551616", "18446744073709551617", "09223372036854775808", "10000000000000000000", strings.Repeat("9", 1000), "1" + strings.Repeat("0", 1000)} {
		fails(t, "module m; begin x := |"+s+"; end.", api.ErrLimit)
		fails(t, "module m; begin x := -|"+s+"; end.", api.ErrLimit)
		fails(t, "module m; begin t[|"+s+"] := 1; end.", api.ErrLimit)
		fails(t, "module m; var a: array |"+s+"; begin end.", api.ErrLimit)
	}
	reads(t, "module m; begin x := "+strings.Repeat("0", 1000)+"7; end.")
	for _, s := range []string{"1", "29", "30", "01", "0030"} {
		reads(t, "module m; var a: array "+s+"; begin end.")
	}
	for _, s := range []string{"31", "031", "40", "300", "301", "1000", "9223372036854775807"} {
		fails(t, "module m; var a: array |"+s+"; begin end.", api.ErrLimit)
		fails(t, "module m; var a*: array |"+s+" begin end.", api.ErrLimit)
	}
}

// 1.1: an array of 0, told at the token behind it.
func TestEmptyArray(t *testing.T) {
	for _, s := range []string{"0|;", "0 |;", "0\n|;", "00|;", "0000000000000000000000|;"} {
		fails(t, "module m; var a: array "+s, api.ErrRange)
		fails(t, "module m; var a: int; var b*: array "+s+" begin end.", api.ErrRange)
	}
	fails(t, "module m; var a: array 0 |x", api.ErrRange)
	fails(t, "module m; var a: array 0|", api.ErrRange)
	fails(t, "module m; var a: array 0; |!", api.ErrForm)
}

// 1.1: variables of a module; behind the last `var` whatever the token is.
func TestManyVars(t *testing.T) {
	most := "module m; " + strings.Repeat("var a: int; ", api.MaxVars/2) + strings.Repeat("var a*: array 3; ", api.MaxVars-api.MaxVars/2)
	reads(t, most+"begin end.")
	for _, s := range []string{"|a: int; begin end.", "|; begin", "|", "|abcdefghijk: int;", "|var", "|31"} {
		fails(t, most+"var "+s, api.ErrLimit)
	}
	fails(t, most+"|x", api.ErrForm)
}

// 1.1: procedures.
func TestManyProcs(t *testing.T) {
	most := "module m; " + strings.Repeat("proc p(); begin end; ", api.MaxProcs)
	reads(t, most+"begin end.")
	for _, s := range []string{"|proc p(); begin end; begin end.", "|proc", "|proc proc"} {
		fails(t, most+s, api.ErrLimit)
	}
	fails(t, most+"|var", api.ErrForm)
}

// 1.1: imports; where the one behind would begin whatever the token is.
func TestManyImports(t *testing.T) {
	reads(t, "module m; import "+names(api.MaxImports)+"; begin end.")
	for _, s := range []string{"|a;", "|;", "|", "|abcdefghijk", "|,", "|import"} {
		fails(t, "module m; import "+names(api.MaxImports)+", "+s, api.ErrLimit)
	}
	fails(t, "module m; import "+names(api.MaxImports)+" |a;", api.ErrForm)
}

// 1.1: parameters and own variables together, likewise.
func TestManyLocals(t *testing.T) {
	for k := range api.MaxVars + 1 {
		head := "module m; proc p(" + names(k) + "); "
		if k < api.MaxVars {
			head += "var " + names(api.MaxVars-k) + "; "
		}
		reads(t, head+"begin end; begin end.")
		over := strings.TrimSuffix(head, "; ") + ", "
		if k == api.MaxVars {
			over = head + "var "
		}
		for _, s := range []string{"|a; begin end; begin end.", "|;", "|", "|abcdefghijk", "|)"} {
			fails(t, over+s, api.ErrLimit)
		}
	}
	for _, s := range []string{"|a); begin end;", "|)", "|", "|abcdefghijk", "|begin"} {
		fails(t, "module m; proc p("+names(api.MaxVars)+", "+s, api.ErrLimit)
	}
	full := "proc p(" + names(api.MaxVars) + "); begin end; "
	reads(t, "module m; "+strings.Repeat(full, 3)+"begin end.")
}

// 1.1: what a ONE may lie in; whatever the token is.
func TestDeepExpressions(t *testing.T) {
	for _, about := range [][2]string{{"-", ""}, {"not ", ""}, {"(", ")"}, {"t[", "]"}, {"f(", ")"}, {"m.t[", "]"}, {"1 + (", ")"}, {"1 * f(", ")"}} {
		a, z := about[0], about[1]
		most := strings.Repeat(a, api.MaxDepth) + "x" + strings.Repeat(z, api.MaxDepth)
		reads(t, "module m; begin write "+most+"; end.")
		reads(t, "module m; begin write "+most+" + "+most+"; x := "+most+"; end.")
		deep := "module m; begin write " + strings.Repeat(a, api.MaxDepth+1)
		for _, s := range []string{"|x" + strings.Repeat(z, api.MaxDepth+1) + "; end.", "|", "|;", "|-1", "|]", "|9223372036854775808", "|abcdefghijk", "|end"} {
			fails(t, deep+s, api.ErrLimit)
		}
	}
	five, back := "-not(t[f(", ")])"
	reads(t, "module m; begin write "+five+five+"x"+back+back+"; end.")
	fails(t, "module m; begin write "+five+five+"-|x", api.ErrLimit)
	reads(t, "module m; begin write 1"+strings.Repeat(" - -1", 50)+strings.Repeat(" - (1)", 50)+"; end.")
	two := strings.Repeat("f(1, ", api.MaxDepth)
	reads(t, "module m; begin write "+two+"x"+strings.Repeat(")", api.MaxDepth)+"; end.")
	fails(t, "module m; begin write "+two+"f(|1, x)", api.ErrLimit)
}

// 1.1: a statement's own brackets count; a CALL without arguments has no ONE in it.
func TestDeepPlacesAndCalls(t *testing.T) {
	nine, back := strings.Repeat("(", api.MaxDepth-1), strings.Repeat(")", api.MaxDepth-1)
	reads(t, "module m; begin t["+nine+"x"+back+"] := ("+nine+"x"+back+"); end.")
	fails(t, "module m; begin t["+nine+"(|x", api.ErrLimit)
	reads(t, "module m; begin f("+nine+"x"+back+", "+nine+"x"+back+"); end.")
	fails(t, "module m; begin f("+nine+"(|x", api.ErrLimit)
	fails(t, "module m; begin m.f(1, "+nine+"(|x", api.ErrLimit)
	reads(t, "module m; begin write ("+nine+"f()"+back+"); end.")
	fails(t, "module m; begin write ("+nine+"f(|,", api.ErrLimit)
	fails(t, "module m; begin write ("+nine+"f(|1)", api.ErrLimit)
	fails(t, "module m; begin write ("+nine+"(|)", api.ErrLimit)
}

// 1.1: what STMTs may lie in; whatever the token is.
func TestDeepStatements(t *testing.T) {
	for _, about := range []string{"while 1 do ", "if 1 then ", "if 1 then else while 2 do "} {
		many := api.MaxDepth / (strings.Count(about, "while") + strings.Count(about, "if"))
		end := "end; "
		if strings.Contains(about, "else") {
			end = "end; end; "
		}
		most := strings.Repeat(about, many) + "write 1; " + strings.Repeat(end, many)
		reads(t, "module m; begin "+most+most+"end.")
		reads(t, "module m; proc p(); begin "+most+"end; begin "+most+"end.")
		deep := "module m; begin " + strings.Repeat(about, many)
		for _, s := range []string{"|x := 1;", "|end;", "|", "|;", "|abcdefghijk", "|1", "|do", "|else"} {
			fails(t, deep+"while 1 do "+s, api.ErrLimit)
			fails(t, deep+"if 1 then "+s, api.ErrLimit)
		}
	}
	tens := strings.Repeat("(", api.MaxDepth) + "1" + strings.Repeat(")", api.MaxDepth)
	reads(t, "module m; begin "+strings.Repeat("while "+tens+" do ", api.MaxDepth)+"write "+tens+"; "+strings.Repeat("end; ", api.MaxDepth)+"end.")
}

// 1.1: each elsif lies in those ahead; else in the last one of them.
func TestDeepElsif(t *testing.T) {
	chain := "if 1 then " + strings.Repeat("elsif 1 then ", api.MaxDepth-1)
	reads(t, "module m; begin "+chain+"write 1; end; "+chain+"else write 1; end; end.")
	for _, s := range []string{"|write 1;", "|end;", "|", "|1", "|elsif"} {
		fails(t, "module m; begin "+chain+"elsif 1 then "+s, api.ErrLimit)
	}
	fails(t, "module m; begin "+chain+"else while 1 do |end;", api.ErrLimit)
	fails(t, "module m; begin "+chain+"if 1 then |end;", api.ErrLimit)
	reads(t, "module m; begin if 1 then "+strings.Repeat("while 1 do ", api.MaxDepth-1)+strings.Repeat("end; ", api.MaxDepth-1)+"elsif 1 then end; end.")
}
