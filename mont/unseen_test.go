package mont_test

import (
	"go/ast"
	"go/parser"
	"go/token"
	"slices"
	"testing"
)

// The document's first words, and P6.3: branches that nobody writes down aren't to be seen in a trace, so the text of the file that all products go by is asked. It may count by lengths alone.
func TestNoBranches(t *testing.T) {
	files := token.NewFileSet()
	file, err := parser.ParseFile(files, "unseen.go", nil, 0)
	if err != nil {
		t.Fatal(err)
	}
	asked := map[string]int{}
	for _, declared := range file.Decls {
		f, ok := declared.(*ast.FuncDecl)
		if !ok {
			continue
		}
		asked[f.Name.Name]++
		for _, fault := range faults(f) {
			t.Errorf("%s: %s hangs on what words hold", files.Position(fault.Pos()), f.Name.Name)
		}
	}
	for _, name := range []string{"prepared", "squareOfR", "isPrepared", "times", "reduced", "addRows", "addRow", "lessened"} {
		if asked[name] != 1 {
			t.Errorf("%s isn't where it is asked", name)
		}
	}
}

// faults are the nodes of a function that branch, compare, divide, go on or come to a place by more than lengths, or make an int of a word.
func faults(f *ast.FuncDecl) []ast.Node {
	var found []ast.Node
	counted := countedNames(f)
	ast.Inspect(f, func(n ast.Node) bool {
		bad := false
		switch n := n.(type) {
		case *ast.SwitchStmt, *ast.TypeSwitchStmt, *ast.SelectStmt, *ast.ForStmt, *ast.BranchStmt:
			bad = true
		case *ast.IfStmt:
			bad = !isCounted(n.Cond, counted)
		case *ast.BinaryExpr:
			bad = branches(n.Op) && !isCounted(n, counted)
		case *ast.RangeStmt:
			bad = !isCounted(n.X, counted)
		case *ast.IndexExpr:
			bad = !isCounted(n.Index, counted)
		case *ast.SliceExpr:
			bad = !isCounted(n.Low, counted) || n.High != nil && !isCounted(n.High, counted)
		case *ast.CallExpr:
			bad = isCallOf(n, "int")
		}
		if bad {
			found = append(found, n)
		}
		return true
	})
	return found
}

func branches(op token.Token) bool {
	return slices.Contains([]token.Token{token.LAND, token.LOR, token.EQL, token.NEQ, token.LSS, token.LEQ, token.GTR, token.GEQ, token.QUO, token.REM}, op)
}

// countedNames are the names of lengths, of ints that are given, of the keys of ranges over them, and of what is reckoned from these. A name that is given anything else somewhere is none of them.
func countedNames(f *ast.FuncDecl) map[string]bool {
	counted := map[string]bool{"wordBits": true}
	for _, given := range f.Type.Params.List {
		kind, ok := given.Type.(*ast.Ident)
		for _, name := range given.Names {
			counted[name.Name] = ok && kind.Name == "int"
		}
	}
	ast.Inspect(f, func(n ast.Node) bool {
		switch n := n.(type) {
		case *ast.RangeStmt:
			if key, ok := n.Key.(*ast.Ident); ok {
				counted[key.Name] = isCounted(n.X, counted)
			}
		case *ast.AssignStmt:
			noteAssigned(n, counted)
		}
		return true
	})
	return counted
}

func noteAssigned(n *ast.AssignStmt, counted map[string]bool) {
	for i, to := range n.Lhs {
		name, ok := to.(*ast.Ident)
		if !ok {
			continue
		}
		is := isCounted(n.Rhs[min(i, len(n.Rhs)-1)], counted)
		if before, known := counted[name.Name]; known && !before {
			is = false
		}
		counted[name.Name] = is
	}
}

// isCounted says whether an expression is made of numbers written out, lengths, and the names given.
func isCounted(x ast.Expr, counted map[string]bool) bool {
	switch x := x.(type) {
	case *ast.BasicLit:
		return true
	case *ast.Ident:
		return counted[x.Name]
	case *ast.ParenExpr:
		return isCounted(x.X, counted)
	case *ast.BinaryExpr:
		return isCounted(x.X, counted) && isCounted(x.Y, counted)
	case *ast.CallExpr:
		if isCallOf(x, "len") {
			return true
		}
		return (isCallOf(x, "uint") || isBitsLen(x)) && isCounted(x.Args[0], counted)
	}
	return false
}

func isCallOf(call *ast.CallExpr, name string) bool {
	f, ok := call.Fun.(*ast.Ident)
	return ok && f.Name == name
}

// isBitsLen says whether it is a call of bits.Len.
func isBitsLen(call *ast.CallExpr) bool {
	f, ok := call.Fun.(*ast.SelectorExpr)
	if !ok || f.Sel.Name != "Len" {
		return false
	}
	from, ok := f.X.(*ast.Ident)
	return ok && from.Name == "bits"
}
