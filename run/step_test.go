package run_test

import (
	"fmt"
	"strings"
	"testing"

	"marquetry/api"
	"marquetry/run"
)

// steps asks that something is done by so many steps, and ends in Fuel by any less, having told no more than what comes first.
func steps(t *testing.T, body string, many int, want string) {
	t.Helper()
	for _, fuel := range []int{many, many + 1, 10 * many, most} {
		var w run.World
		loads(t, &w, around(body), fuel, want)
	}
	_, all, _ := strings.Cut(want, " ")
	for fuel := -2; max(fuel, 0) < many; fuel++ {
		var w run.World
		e, err := w.Load(reads(t, around(body)), fuel)
		_, told, _ := strings.Cut(shown(e), " ")
		if err != nil || e.Way != api.Fuel || told != "" && !strings.HasPrefix(all+" ", told+" ") {
			t.Errorf("%s by %d: %s, %v; want fuel, and no more told than in %s", body, fuel, shown(e), err, want)
		}
	}
}

// 4.3: each STMT that is done is a step (ahead of it), and each round of a While (behind it).
func TestSteps(t *testing.T) {
	for _, c := range []struct {
		body string
		many int
		want string
	}{
		{"", 0, "done"},
		{"write 7;", 1, "done 7"},
		{"write 7; write 8; write 9;", 3, "done 7 8 9"},
		{"return 1; write 2;", 1, "done"},
		{"x := 1; t[x] := 2; none(); write t[1];", 4, "done 2"}, // none has no STMTs
		{"up(1);", 3, "done"},
		{"write up(up(1));", 5, "done 2"},
		{"write n(1) + n(2);", 5, "done 1 2 3"},
		{"if 1 then end;", 1, "done"},
		{"if 1 then write 1; end;", 2, "done 1"},
		{"if 0 then write 1; end;", 1, "done"},
		{"if 0 then write 1; else write 2; write 3; end;", 3, "done 2 3"},
		{"if 0 then elsif 1 then write 1; end;", 3, "done 1"}, // an elsif is an If
		{"if 1 then write 1; elsif 1 then write 2; end;", 2, "done 1"},
		{"if 0 then elsif 0 then elsif 0 then else write 1; end;", 4, "done 1"},
		{"while 0 do write 1; end;", 1, "done"},
		{"while x < 1 do x := 1; end;", 3, "done"},
		{"while x < 3 do x := x + 1; end;", 7, "done"},
		{"while x < 3 do x := x + 1; write x; end; write 9;", 11, "done 1 2 3 9"},
		{"while up(1) < 3 do end;", 1 + 3*2 + 2, "done"}, // rounds of nothing are rounds
		{"while x < 2 do x := x + 1; y := 0; while y < 2 do y := y + 1; end; end; write y;", 1 + 2*(2+5+1) + 1, "done 2"},
		{"while 1 do return 5; end; write 1;", 2, "done"}, // this round has no end
		{"write down(3);", 1 + 3*2 + 2, "done 3"},
		{"x := 3; write 1 div 0; write 2;", 2, "zero"},
		{"write 6; while t[9] do end;", 2, "bounds 6"},
	} {
		steps(t, c.body, c.many, c.want)
	}
}

// 4.3: Fuel in rounds of nothing, in procedures, and in Call; below 0 is as 0.
func TestFuel(t *testing.T) {
	goes(t, "while 1 do end;", "fuel")
	goes(t, "while 1 do write 1; while 1 do end; end;", "fuel 1")
	w := world(t, "module m; var x: int; proc none*(); begin end; proc on*(); begin while 1 do x := x + 1; end; end; proc to*(a); begin write a; on(); end; begin end.")
	for _, fuel := range []int{0, -1, least} {
		calls(t, w, "m", "none", nil, fuel, "done", 0)
		calls(t, w, "m", "on", nil, fuel, "fuel", 0)
	}
	has(t, w, "m", "x", "0")
	calls(t, w, "m", "on", nil, 2, "fuel", 0)
	has(t, w, "m", "x", "1")
	calls(t, w, "m", "on", nil, 3, "fuel", 0) // the round's step, and no other
	has(t, w, "m", "x", "2")
	calls(t, w, "m", "to", []int64{4}, 1+2+2000, "fuel 4", 0)
	has(t, w, "m", "x", "1002")
}

// 4.3: parts from the left, and each once; a Set's Index ahead of its Value.
func TestFromTheLeft(t *testing.T) {
	for body, want := range map[string]string{
		"write n(1) + n(2) * n(3);":            "done 1 2 3 7",
		"write (n(1) - n(2)) - (n(3) - n(4));": "done 1 2 3 4 0",
		"write n(1) < n(2) = n(3);":            "done 1 2 3 0",
		"write -n(1) + not n(2);":              "done 1 2 -1",
		"t[n(1)] := n(2); write t[1];":         "done 1 2 2",
		"write t[n(1)] + t[n(2)];":             "done 1 2 0",
		"t[t[n(0)]] := t[n(1)] + n(2);":        "done 0 1 2",
		"write n(n(1) + n(n(2)));":             "done 1 2 2 3 3",
		"x := 1; write x + up(5) + x;":         "done 13",
		"x := 1; write up(5) + x + up(1);":     "done 19",
		"x := 2; x := up(1) + x; write x;":     "done 6",
		"t[x] := up(1); write t[0]; write x;":  "done 1 1", // x was 0 when it was reckoned
		"if n(0) then elsif n(2) then write n(3); elsif n(4) then else write n(5); end;": "done 0 2 3 3",
		"while n(x) < 2 do x := x + 1; end;":                                             "done 0 1 2",
	} {
		goes(t, body, want)
	}
	w := world(t, "module m; proc n(a); begin write a; return a; end; proc four(a, b, c, d); begin return a - b - c - d; end; proc go*(); begin return four(n(9), n(2), n(3), n(1)); end; begin end.")
	calls(t, w, "m", "go", nil, much, "done 9 2 3 1", 3)
}

// 4.3: marks of one, and and, or: 1 or 0, the right side only if need be.
func TestMarks(t *testing.T) {
	for x, want := range map[string]string{
		"-5": "done -5", "-0": "done 0", "--5": "done 5", "-(-9223372036854775807 - 1)": "done -9223372036854775808",
		"not 0": "done 1", "not 1": "done 0", "not -3": "done 0", "not not 7": "done 1",
		"1 and 2": "done 1", "-1 and 5": "done 1", "1 and 0": "done 0", "0 and 1": "done 0", "7 or 0": "done 1", "0 or 7": "done 1", "0 or 0": "done 0", "2 or 4": "done 1",
		"n(0) and n(2)": "done 0 0", "n(3) and n(2)": "done 3 2 1", "n(3) and n(0)": "done 3 0 0",
		"n(0) or n(2)": "done 0 2 1", "n(3) or n(2)": "done 3 1", "n(0) or n(0)": "done 0 0 0",
		"0 and 1 div 0": "done 0", "1 or 1 div 0": "done 1", "1 and 1 div 0": "zero", "0 or 1 div 0": "zero", "0 and t[9]": "done 0", "1 or down(99)": "done 1",
		"n(0) and n(1) or n(2)": "done 0 2 1", "n(1) or n(2) and n(3)": "done 1 1",
		"-7 div 2": "done -4", "-7 mod 2": "done 1", "7 div -2": "done -4", "7 mod -2": "done -1",
		"9223372036854775807 + 1": "done -9223372036854775808", "3 = 3": "done 1", "3 # 3": "done 0", "2 <= 2": "done 1", "2 < 2": "done 0", "2 >= 3": "done 0", "4 > 3": "done 1",
	} {
		goes(t, "write "+x+";", want)
	}
}

// 4.3: Zero, behind both sides; it ends all.
func TestZero(t *testing.T) {
	for body, want := range map[string]string{
		"write 1 div 0; write 2;":                              "zero",
		"write 1 mod 0;":                                       "zero",
		"write n(1) div n(0);":                                 "zero 1 0",
		"write 1 div 0 + n(2);":                                "zero",
		"write n(2) + 1 div 0;":                                "zero 2",
		"x := 5; x := 1 div 0;":                                "zero",
		"t[1 div 0] := n(1);":                                  "zero",
		"write n(n(1) div 0);":                                 "zero 1",
		"if 1 mod 0 then write 1; else write 2; end;":          "zero",
		"while 1 do while 1 do write 1 div x; end; end;":       "zero",
		"write down(1 div 0);":                                 "zero",
		"none(); return n(1) div 0;":                           "zero 1",
		"while 3 - x do x := x + 1; write 6 div (2 - x); end;": "zero 6",
	} {
		goes(t, body, want)
	}
}

// 4.3: Bounds: not from 0 to Len - 1; a Set's behind its Value.
func TestBounds(t *testing.T) {
	for body, want := range map[string]string{
		"write t[0]; write t[2];":                           "done 0 0",
		"write t[3];":                                       "bounds",
		"write t[-1];":                                      "bounds",
		"write t[9223372036854775807];":                     "bounds",
		"write t[-9223372036854775807 - 1];":                "bounds",
		"write t[4294967296];":                              "bounds",
		"write n(1) + t[n(3)] + n(2);":                      "bounds 1 3",
		"t[0] := 1; t[2] := 3; write t[0] + t[1] + t[2];":   "done 4",
		"t[3] := 1;":                                        "bounds",
		"t[-1] := n(5);":                                    "bounds 5",
		"t[n(3)] := n(5);":                                  "bounds 3 5",
		"t[3] := 1 div 0;":                                  "zero",
		"t[3] := t[4];":                                     "bounds",
		"t[up(1)] := up(1); write t[1]; t[up(1)] := up(1);": "bounds 2",
	} {
		goes(t, body, want)
	}
	w := world(t, "module a; var one*: array 1; var all*: array 30; begin one[0] := 4; all[29] := 5; end.",
		"module b; import a; proc one*(k); begin return a.one[k]; end; proc all*(k); begin return a.all[k]; end; begin end.")
	calls(t, w, "b", "one", []int64{0}, much, "done", 4)
	calls(t, w, "b", "one", []int64{1}, much, "bounds", 0)
	calls(t, w, "b", "one", []int64{-1}, much, "bounds", 0)
	calls(t, w, "b", "all", []int64{29}, much, "done", 5)
	calls(t, w, "b", "all", []int64{30}, much, "bounds", 0)
}

// 4.3: Full: MaxOut were told; behind what is to be told was reckoned.
func TestOut(t *testing.T) {
	many := "while x < " + fmt.Sprint(api.MaxOut) + " do x := x + 1; write 8; end; "
	all := strings.Repeat(" 8", api.MaxOut)
	goes(t, many, "done"+all)
	goes(t, many+"x := 0; none();", "done"+all)
	goes(t, many+"write 9;", "full"+all)
	goes(t, many+"write 1 div 0;", "zero"+all)
	goes(t, many+"write n(1) div 0;", "full"+all)
	goes(t, many+"x := 0; write up(1) + t[5];", "bounds"+all)
	w := world(t, around(many)) // each Load, each Call tells from the beginning on
	swaps(t, w, strings.Replace(around(""), "proc n(", "proc n*(", 1), api.OK)
	calls(t, w, "m", "n", []int64{3}, much, "done 3", 3)
	calls(t, w, "m", "n", []int64{4}, much, "done 4", 4)
}
