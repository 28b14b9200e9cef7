package tree

// ranked is a mark of two, and its level: 0 holds least.
type ranked struct {
	op    string
	level int
}

// levels are all marks of two, by their levels.
var levels = [...]ranked{
	{"or", 0},
	{"and", 1},
	{"=", 2}, {"#", 2}, {"<", 2}, {"<=", 2}, {">", 2}, {">=", 2},
	{"+", 3}, {"-", 3},
	{"*", 4}, {"div", 4}, {"mod", 4},
}

// oneLevel is that of a ONE: it holds more than all marks of two.
const oneLevel = 5

// levelOf is the level of a mark of two; of any other text that of a ONE, so that it neither goes on with a level nor asks for brackets.
func levelOf(op string) int {
	for _, r := range levels {
		if r.op == op {
			return r.level
		}
	}
	return oneLevel
}
