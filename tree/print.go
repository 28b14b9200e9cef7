package tree

import (
	"strconv"
	"strings"

	"marquetry/api"
)

// addModule adds a module's lines to a text.
func addModule(b []byte, m api.Module) []byte {
	b = addAll(b, "module ", m.Name, ";\n")
	if len(m.Imports) > 0 {
		b = addAll(b, "import ", strings.Join(m.Imports, ", "), ";\n")
	}
	for _, g := range m.Vars {
		b = addGlobal(b, g)
	}
	for _, c := range m.Procs {
		b = addProc(b, c)
	}
	b = addAll(b, "begin\n")
	b = addStmts(b, m.Body, 1)
	return addAll(b, "end.\n")
}

// addGlobal adds a variable's line.
func addGlobal(b []byte, g api.Global) []byte {
	b = addAll(b, "var ", g.Name, star(g.Seen), ": ")
	if g.Len == 0 {
		return addAll(b, "int;\n")
	}
	return addAll(b, "array ", strconv.Itoa(g.Len), ";\n")
}

// addProc adds a procedure's lines.
func addProc(b []byte, c api.Proc) []byte {
	b = addAll(b, "proc ", c.Name, star(c.Seen), "(", strings.Join(c.Params, ", "), ");\n")
	if len(c.Vars) > 0 {
		b = addAll(b, "var ", strings.Join(c.Vars, ", "), ";\n")
	}
	b = addAll(b, "begin\n")
	b = addStmts(b, c.Body, 1)
	return addAll(b, "end;\n")
}

// addStmts adds statements' lines, with two blanks ahead for each level.
func addStmts(b []byte, l []api.Stmt, deep int) []byte {
	for _, s := range l {
		b = addStmt(b, s, deep)
	}
	return b
}

// addStmt adds a statement's lines.
func addStmt(b []byte, s api.Stmt, deep int) []byte {
	b = addBlanks(b, deep)
	switch s.Code {
	case api.Set:
		b = append(b, s.Name...)
		if s.Index != nil {
			b = append(addExpr(append(b, '['), s.Index), ']')
		}
		b = addExpr(addAll(b, " := "), s.Value)
	case api.Call:
		b = addExpr(b, s.Value)
	case api.Return:
		b = addExpr(addAll(b, "return "), s.Value)
	case api.Write:
		b = addExpr(addAll(b, "write "), s.Value)
	case api.While:
		b = addAll(addExpr(addAll(b, "while "), s.Value), " do\n")
		b = addBlock(b, s.Then, deep)
	case api.If:
		b = addAll(addExpr(addAll(b, "if "), s.Value), " then\n")
		b = addBranches(b, s, deep)
	}
	return addAll(b, ";\n")
}

// addBranches adds what an If has behind its `then`, without the last mark.
func addBranches(b []byte, s api.Stmt, deep int) []byte {
	if len(s.Else) == 0 {
		return addBlock(b, s.Then, deep)
	}
	b = addStmts(b, s.Then, deep+1)
	b = addAll(addBlanks(b, deep), "else\n")
	return addBlock(b, s.Else, deep)
}

// addBlock adds statements, one level deeper, and their `end`.
func addBlock(b []byte, l []api.Stmt, deep int) []byte {
	b = addStmts(b, l, deep+1)
	return addAll(addBlanks(b, deep), "end")
}

// addBlanks adds two blanks for each level.
func addBlanks(b []byte, deep int) []byte {
	for range deep {
		b = append(b, "  "...)
	}
	return b
}

// addAll adds texts, one behind the other.
func addAll(b []byte, l ...string) []byte {
	for _, s := range l {
		b = append(b, s...)
	}
	return b
}

// star is what stands behind the name of what others see.
func star(seen bool) string {
	if seen {
		return "*"
	}
	return ""
}
