package run

// truth is 1, if it is so, else 0.
func truth(is bool) int64 {
	if is {
		return 1
	}
	return 0
}

// single is what a mark of one comes to.
func single(op string, n int64) int64 {
	if op == "not" {
		return truth(n == 0)
	}
	return -n
}

// divided is what div or mod comes to; false: by 0. The language's own rest has a's sign, not b's.
func divided(op string, a, b int64) (int64, bool) {
	if b == 0 {
		return 0, false
	}
	quotient, rest := a/b, a%b
	if rest != 0 && (rest < 0) != (b < 0) {
		quotient, rest = quotient-1, rest+b
	}
	if op == "mod" {
		return rest, true
	}
	return quotient, true
}
