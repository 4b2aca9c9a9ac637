package pad_test

import (
	"go/ast"
	"go/parser"
	"go/token"
	"slices"
	"testing"
)

// parsed is a file of this package.
func parsed(t *testing.T, files *token.FileSet, name string) *ast.File {
	t.Helper()
	file, err := parser.ParseFile(files, name, nil, 0)
	if err != nil {
		t.Fatal(err)
	}
	return file
}

// P23.2 to P23.4: branches and places that nobody writes down aren't to be seen in a trace, so the text of the file that looks at the bytes is asked. It may count by lengths and by numbers written out alone.
func TestNoBranches(t *testing.T) {
	files := token.NewFileSet()
	asked := map[string]int{}
	for _, declared := range parsed(t, files, "unseen.go").Decls {
		f, ok := declared.(*ast.FuncDecl)
		if !ok {
			continue
		}
		asked[f.Name.Name]++
		keys := keysOfCounts(f)
		ast.Inspect(f, func(n ast.Node) bool {
			if n != nil && hangsOnBytes(n, keys) {
				t.Errorf("%s: %s hangs on what bytes hold", files.Position(n.Pos()), f.Name.Name)
			}
			return true
		})
	}
	for _, name := range []string{"Equal", "Find", "message"} {
		if asked[name] != 1 {
			t.Errorf("%s isn't where it is asked", name)
		}
	}
}

// keysOfCounts are the names of this package's constants, of what is made of counts, and of the keys of ranges over counts.
func keysOfCounts(f *ast.FuncDecl) []string {
	keys := []string{"headSize", "endSize", "minFill"}
	ast.Inspect(f, func(n ast.Node) bool {
		switch n := n.(type) {
		case *ast.AssignStmt:
			name, ok := n.Lhs[0].(*ast.Ident)
			if ok && n.Tok == token.DEFINE && len(n.Rhs) == 1 && isCount(n.Rhs[0], keys) {
				keys = append(keys, name.Name)
			}
		case *ast.RangeStmt:
			key, ok := n.Key.(*ast.Ident)
			if ok && n.Value == nil && isCount(n.X, keys) {
				keys = append(keys, key.Name)
			}
		}
		return true
	})
	return keys
}

// hangsOnBytes says whether something goes one way or another, compares, divides, goes on, cuts or comes to a place by more than counts.
func hangsOnBytes(n ast.Node, keys []string) bool {
	switch n := n.(type) {
	case *ast.IfStmt, *ast.SwitchStmt, *ast.TypeSwitchStmt, *ast.SelectStmt, *ast.ForStmt, *ast.BranchStmt:
		return true
	case *ast.SliceExpr:
		return n.Low != nil || !isCount(n.High, keys)
	case *ast.RangeStmt:
		return !isCount(n.X, keys)
	case *ast.IndexExpr:
		return !isCount(n.Index, keys)
	case *ast.BinaryExpr:
		branching := []token.Token{token.LAND, token.LOR, token.EQL, token.NEQ, token.LSS, token.LEQ, token.GTR, token.GEQ, token.QUO, token.REM}
		return slices.Contains(branching, n.Op) && !isCount(n, keys)
	case *ast.CallExpr:
		f, ok := n.Fun.(*ast.Ident)
		return ok && (f.Name == "min" || f.Name == "max") && !isCount(n, keys)
	}
	return false
}

// isCount says whether an expression is made of numbers written out, lengths, and the names given.
func isCount(x ast.Expr, keys []string) bool {
	switch x := x.(type) {
	case *ast.BasicLit:
		return true
	case *ast.Ident:
		return slices.Contains(keys, x.Name)
	case *ast.BinaryExpr:
		return isCount(x.X, keys) && isCount(x.Y, keys)
	case *ast.CallExpr:
		f, ok := x.Fun.(*ast.Ident)
		if !ok || f.Name == "len" {
			return ok
		}
		return slices.Contains([]string{"min", "max"}, f.Name) && !slices.ContainsFunc(x.Args, func(part ast.Expr) bool { return !isCount(part, keys) })
	}
	return false
}

// Decode itself may ask em's length and whether it was right, but no byte: those are looked at by what is asked above alone.
func TestDecodeLooksAtNoByte(t *testing.T) {
	files := token.NewFileSet()
	asked := 0
	for _, declared := range parsed(t, files, "pad.go").Decls {
		f, ok := declared.(*ast.FuncDecl)
		if !ok || f.Name.Name != "Decode" {
			continue
		}
		asked++
		ast.Inspect(f, func(n ast.Node) bool {
			switch n.(type) {
			case *ast.IndexExpr, *ast.RangeStmt, *ast.ForStmt, *ast.SwitchStmt:
				t.Errorf("%s: a byte is looked at", files.Position(n.Pos()))
			}
			return true
		})
	}
	if asked != 1 {
		t.Error("Decode isn't where it is asked")
	}
}
