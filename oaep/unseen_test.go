package oaep_test

import (
	"go/ast"
	"go/parser"
	"go/token"
	"slices"
	"testing"
)

// functions are those of a file of this package, by name.
func functions(t *testing.T, files *token.FileSet, name string) map[string]*ast.FuncDecl {
	t.Helper()
	file, err := parser.ParseFile(files, name, nil, 0)
	if err != nil {
		t.Fatal(err)
	}
	found := map[string]*ast.FuncDecl{}
	for _, declared := range file.Decls {
		if f, ok := declared.(*ast.FuncDecl); ok {
			found[f.Name.Name] = f
		}
	}
	return found
}

// P24.2: branches and places that nobody writes down aren't to be seen in a trace, so the text of the file that looks at the bytes is asked. It may count by lengths, by the sizes of a block's parts and by numbers written out alone.
func TestNoBranches(t *testing.T) {
	files := token.NewFileSet()
	asked := functions(t, files, "unseen.go")
	for name, f := range asked {
		keys := keysOfCounts(f)
		ast.Inspect(f, func(n ast.Node) bool {
			if n != nil && hangsOnBytes(n, keys) {
				t.Errorf("%s: %s hangs on what bytes hold", files.Position(n.Pos()), name)
			}
			return true
		})
	}
	for _, name := range []string{"cut", "unmasked", "message", "noughts"} {
		if asked[name] == nil {
			t.Errorf("%s isn't where it is asked", name)
		}
	}
}

// keysOfCounts are the names of the sizes of a block's parts, and of the keys of ranges over counts.
func keysOfCounts(f *ast.FuncDecl) []string {
	keys := []string{"firstSize", "endSize", "size"}
	ast.Inspect(f, func(n ast.Node) bool {
		if n, ok := n.(*ast.RangeStmt); ok {
			key, ok := n.Key.(*ast.Ident)
			if ok && n.Value == nil && isCount(n.X, keys) {
				keys = append(keys, key.Name)
			}
		}
		return true
	})
	return keys
}

// hangsOnBytes says whether something goes one way or another, compares, divides, goes on, cuts or comes to a place by more than counts.
func hangsOnBytes(n ast.Node, keys []string) bool {
	switch n := n.(type) {
	case *ast.IfStmt, *ast.SwitchStmt, *ast.TypeSwitchStmt, *ast.SelectStmt, *ast.ForStmt, *ast.BranchStmt:
		return true
	case *ast.SliceExpr:
		return n.Low != nil && !isCount(n.Low, keys) || n.High != nil && !isCount(n.High, keys)
	case *ast.RangeStmt:
		return !isCount(n.X, keys)
	case *ast.IndexExpr:
		return !isCount(n.Index, keys)
	case *ast.BinaryExpr:
		branching := []token.Token{token.LAND, token.LOR, token.EQL, token.NEQ, token.LSS, token.LEQ, token.GTR, token.GEQ, token.QUO, token.REM}
		return slices.Contains(branching, n.Op) && !isCount(n, keys)
	case *ast.CallExpr:
		f, ok := n.Fun.(*ast.Ident)
		return ok && (f.Name == "min" || f.Name == "max") && !isCount(n, keys)
	}
	return false
}

// isCount says whether an expression is made of numbers written out, lengths, and the names given.
func isCount(x ast.Expr, keys []string) bool {
	switch x := x.(type) {
	case *ast.BasicLit:
		return true
	case *ast.Ident:
		return slices.Contains(keys, x.Name)
	case *ast.BinaryExpr:
		return isCount(x.X, keys) && isCount(x.Y, keys)
	case *ast.CallExpr:
		f, ok := x.Fun.(*ast.Ident)
		return ok && f.Name == "len"
	}
	return false
}

// Decode itself and the masks may ask em's length and whether it was right, but no byte: those are looked at by what is asked above alone.
func TestDecodeLooksAtNoByte(t *testing.T) {
	files := token.NewFileSet()
	all := functions(t, files, "oaep.go")
	for _, name := range []string{"Decode", "masks"} {
		f := all[name]
		if f == nil {
			t.Errorf("%s isn't where it is asked", name)
			continue
		}
		ast.Inspect(f, func(n ast.Node) bool {
			switch n.(type) {
			case *ast.IndexExpr, *ast.RangeStmt, *ast.ForStmt:
				t.Errorf("%s: a byte is looked at", files.Position(n.Pos()))
			}
			return true
		})
	}
}
