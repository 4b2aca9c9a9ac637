package ring_test

import (
	"go/ast"
	"go/parser"
	"go/token"
	"slices"
	"testing"
)

// The document's first words: branches that nobody writes down aren't to be seen in a trace, so the text of the file that sums, differences and halves go by is asked. It has no branch, no loop and no place at all.
func TestNoBranches(t *testing.T) {
	files := token.NewFileSet()
	file, err := parser.ParseFile(files, "unseen.go", nil, 0)
	if err != nil {
		t.Fatal(err)
	}
	asked := map[string]int{}
	for _, declared := range file.Decls {
		f, ok := declared.(*ast.FuncDecl)
		if !ok {
			continue
		}
		asked[f.Name.Name]++
		ast.Inspect(f, func(n ast.Node) bool {
			if branches(n) {
				t.Errorf("%s: %s hangs on what words hold", files.Position(n.Pos()), f.Name.Name)
			}
			return true
		})
	}
	for _, name := range []string{"sum", "difference", "half"} {
		if asked[name] != 1 {
			t.Errorf("%s isn't where it is asked", name)
		}
	}
}

// G2 stands on it that nothing goes by unwritten: every call of a layer below that takes a trace is handed the one that was given.
func TestTraceIsHandedOn(t *testing.T) {
	files := token.NewFileSet()
	handed := 0
	for _, name := range []string{"ring.go", "unseen.go"} {
		file, err := parser.ParseFile(files, name, nil, 0)
		if err != nil {
			t.Fatal(err)
		}
		ast.Inspect(file, func(n ast.Node) bool {
			call, ok := n.(*ast.CallExpr)
			if !ok || !isBelow(call.Fun) {
				return true
			}
			handed++
			if first, ok := call.Args[0].(*ast.Ident); !ok || first.Name != "t" {
				t.Errorf("%s: the trace isn't handed on", files.Position(call.Pos()))
			}
			return true
		})
	}
	if handed < 10 {
		t.Errorf("only %d calls were found", handed)
	}
}

// isBelow says whether it is a function of a layer below that takes a trace: all but mont.Check do.
func isBelow(f ast.Expr) bool {
	chosen, ok := f.(*ast.SelectorExpr)
	if !ok || chosen.Sel.Name == "Check" {
		return false
	}
	from, ok := chosen.X.(*ast.Ident)
	return ok && slices.Contains([]string{"limbs", "product", "mont"}, from.Name)
}

// branches says whether something goes one way or another, goes on, compares, divides, or comes to a place.
func branches(n ast.Node) bool {
	switch n := n.(type) {
	case *ast.IfStmt, *ast.SwitchStmt, *ast.TypeSwitchStmt, *ast.SelectStmt, *ast.ForStmt, *ast.RangeStmt, *ast.BranchStmt, *ast.IndexExpr, *ast.SliceExpr:
		return true
	case *ast.BinaryExpr:
		switch n.Op {
		case token.LAND, token.LOR, token.EQL, token.NEQ, token.LSS, token.LEQ, token.GTR, token.GEQ, token.QUO, token.REM:
			return true
		}
	}
	return false
}
