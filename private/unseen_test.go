package private_test

import (
	"go/ast"
	"go/parser"
	"go/token"
	"slices"
	"testing"
)

// parsed is a file of this package.
func parsed(t *testing.T, files *token.FileSet, name string) *ast.File {
	t.Helper()
	file, err := parser.ParseFile(files, name, nil, 0)
	if err != nil {
		t.Fatal(err)
	}
	return file
}

// P22.1: branches and places that nobody writes down aren't to be seen in a trace, so the text of the file that all powers go by is asked. It may count by lengths and by numbers written out alone.
func TestNoBranches(t *testing.T) {
	files := token.NewFileSet()
	asked := map[string]int{}
	for _, declared := range parsed(t, files, "unseen.go").Decls {
		f, ok := declared.(*ast.FuncDecl)
		if !ok {
			continue
		}
		asked[f.Name.Name]++
		keys := keysOfCounts(f)
		ast.Inspect(f, func(n ast.Node) bool {
			if n != nil && hangsOnWords(n, keys) {
				t.Errorf("%s: %s hangs on what words hold", files.Position(n.Pos()), f.Name.Name)
			}
			return true
		})
	}
	for _, name := range []string{"strikingBy", "checkedPower", "powerByHalves", "powerModulo", "fitted", "bytesOf"} {
		if asked[name] != 1 {
			t.Errorf("%s isn't where it is asked", name)
		}
	}
}

// keysOfCounts are the names of this file's constants and of the keys of ranges over counts.
func keysOfCounts(f *ast.FuncDecl) []string {
	keys := []string{"byteBits", "wordBytes"}
	ast.Inspect(f, func(n ast.Node) bool {
		if loop, ok := n.(*ast.RangeStmt); ok && isCount(loop.X, keys) {
			if key, ok := loop.Key.(*ast.Ident); ok {
				keys = append(keys, key.Name)
			}
		}
		return true
	})
	return keys
}

// hangsOnWords says whether something goes one way or another, compares, divides, goes on or comes to a place by more than counts.
func hangsOnWords(n ast.Node, keys []string) bool {
	switch n := n.(type) {
	case *ast.IfStmt, *ast.SwitchStmt, *ast.TypeSwitchStmt, *ast.SelectStmt, *ast.ForStmt, *ast.BranchStmt, *ast.SliceExpr:
		return true
	case *ast.RangeStmt:
		return !isCount(n.X, keys)
	case *ast.IndexExpr:
		return !isCount(n.Index, keys)
	case *ast.BinaryExpr:
		branching := []token.Token{token.LAND, token.LOR, token.EQL, token.NEQ, token.LSS, token.LEQ, token.GTR, token.GEQ, token.QUO, token.REM}
		return slices.Contains(branching, n.Op) && !isCount(n, keys)
	}
	return false
}

// isCount says whether an expression is made of numbers written out, lengths, and the names given.
func isCount(x ast.Expr, keys []string) bool {
	switch x := x.(type) {
	case *ast.BasicLit:
		return true
	case *ast.Ident:
		return slices.Contains(keys, x.Name)
	case *ast.BinaryExpr:
		return isCount(x.X, keys) && isCount(x.Y, keys)
	case *ast.CallExpr:
		f, ok := x.Fun.(*ast.Ident)
		return ok && f.Name == "len"
	}
	return false
}

// G2 stands on it that nothing goes by unwritten: from the draws of r on every call of a layer below that takes a trace is handed the one that was given.
func TestTraceIsHandedOn(t *testing.T) {
	files := token.NewFileSet()
	handed := map[string]int{}
	ast.Inspect(parsed(t, files, "unseen.go"), func(n ast.Node) bool {
		call, ok := n.(*ast.CallExpr)
		if !ok {
			return true
		}
		below := nameBelow(call.Fun)
		if below == "" {
			return true
		}
		handed[below]++
		if first, ok := call.Args[0].(*ast.Ident); !ok || first.Name != "t" {
			t.Errorf("%s: the trace isn't handed on", files.Position(call.Pos()))
		}
		return true
	})
	for _, name := range []string{"power.Exp", "ring.Mul", "ring.Sub", "ring.Reduce", "product.Mul", "inverse.Of", "limbs.Add", "limbs.Equal", "limbs.Select"} {
		if handed[name] == 0 {
			t.Errorf("%s isn't called", name)
		}
	}
}

// nameBelow is the name of a function of a layer below that takes a trace, else none: what anybody may know goes by mont's Setup, and by short, which take none.
func nameBelow(f ast.Expr) string {
	chosen, ok := f.(*ast.SelectorExpr)
	if !ok || slices.Contains([]string{"Setup", "Quick", "Small"}, chosen.Sel.Name) {
		return ""
	}
	from, ok := chosen.X.(*ast.Ident)
	if !ok || !slices.Contains([]string{"limbs", "product", "mont", "ring", "power", "inverse"}, from.Name) {
		return ""
	}
	return from.Name + "." + chosen.Sel.Name
}
