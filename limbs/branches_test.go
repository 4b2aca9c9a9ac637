package limbs_test

import (
	"go/ast"
	"go/parser"
	"go/token"
	"testing"
)

// The chapter's first words: branches that nobody writes down aren't to be seen in a trace, so the package's text is asked. Only lengths may be branched on, only places counted from them may be come to.
func TestNoBranches(t *testing.T) {
	files := token.NewFileSet()
	file, err := parser.ParseFile(files, "limbs.go", nil, 0)
	if err != nil {
		t.Fatal(err)
	}
	asked := 0
	for _, declared := range file.Decls {
		f, ok := declared.(*ast.FuncDecl)
		if !ok {
			continue
		}
		asked++
		for _, fault := range faults(f) {
			t.Errorf("%s: %s hangs on what words hold", files.Position(fault.Pos()), f.Name.Name)
		}
	}
	if asked < 11 {
		t.Errorf("only %d functions were found", asked)
	}
}

// faults are the nodes of a function that branch, compare, divide, go on or come to a place by more than lengths.
func faults(f *ast.FuncDecl) []ast.Node {
	var found []ast.Node
	counted := countedNames(f)
	ast.Inspect(f, func(n ast.Node) bool {
		bad := false
		switch n := n.(type) {
		case *ast.SwitchStmt, *ast.TypeSwitchStmt, *ast.SelectStmt, *ast.ForStmt, *ast.BranchStmt, *ast.SliceExpr:
			bad = true
		case *ast.BinaryExpr:
			bad = branches(n.Op) && !(isCounted(n.X, counted) && isCounted(n.Y, counted))
		case *ast.RangeStmt:
			bad = !isCounted(n.X, counted) && !isOperands(n.X)
		case *ast.IndexExpr:
			bad = !isCounted(n.Index, counted)
		}
		if bad {
			found = append(found, n)
		}
		return true
	})
	return found
}

func branches(op token.Token) bool {
	switch op {
	case token.LAND, token.LOR, token.EQL, token.NEQ, token.LSS, token.LEQ, token.GTR, token.GEQ, token.QUO, token.REM:
		return true
	}
	return false
}

// countedNames are the names of lengths, of the keys of ranges over them, and of what is reckoned from these. A name that is given anything else somewhere is none of them.
func countedNames(f *ast.FuncDecl) map[string]bool {
	counted := map[string]bool{}
	ast.Inspect(f, func(n ast.Node) bool {
		switch n := n.(type) {
		case *ast.RangeStmt:
			if key, ok := n.Key.(*ast.Ident); ok {
				counted[key.Name] = isCounted(n.X, counted)
			}
		case *ast.AssignStmt:
			noteAssigned(n, counted)
		}
		return true
	})
	return counted
}

func noteAssigned(n *ast.AssignStmt, counted map[string]bool) {
	for i, to := range n.Lhs {
		name, ok := to.(*ast.Ident)
		if !ok {
			continue
		}
		from := n.Rhs[min(i, len(n.Rhs)-1)]
		// The first answer of common is a length.
		is := isCounted(from, counted) || i == 0 && isCallOf(from, "common")
		if before, known := counted[name.Name]; known && !before {
			is = false
		}
		counted[name.Name] = is
	}
}

// isCounted says whether an expression is made of numbers written out, lengths, and the names given.
func isCounted(x ast.Expr, counted map[string]bool) bool {
	switch x := x.(type) {
	case *ast.BasicLit:
		return true
	case *ast.Ident:
		return counted[x.Name]
	case *ast.BinaryExpr:
		return isCounted(x.X, counted) && isCounted(x.Y, counted)
	case *ast.CallExpr:
		if isCallOf(x, "max") {
			return isCounted(x.Args[0], counted) && isCounted(x.Args[1], counted)
		}
		return isCallOf(x, "len")
	}
	return false
}

// isOperands says whether an expression is common's list, of which the lengths alone are asked.
func isOperands(x ast.Expr) bool {
	name, ok := x.(*ast.Ident)
	return ok && name.Name == "operands"
}

func isCallOf(x ast.Expr, name string) bool {
	call, ok := x.(*ast.CallExpr)
	if !ok {
		return false
	}
	f, ok := call.Fun.(*ast.Ident)
	return ok && f.Name == name
}
