package inverse_test

import (
	"go/ast"
	"go/parser"
	"go/token"
	"slices"
	"testing"
)

// parsed is a file of this package.
func parsed(t *testing.T, files *token.FileSet, name string) *ast.File {
	t.Helper()
	file, err := parser.ParseFile(files, name, nil, 0)
	if err != nil {
		t.Fatal(err)
	}
	return file
}

// P10.2: branches and places that nobody writes down aren't to be seen in a trace, so the text of the file that all steps go by is asked.
func TestNoBranches(t *testing.T) {
	files := token.NewFileSet()
	asked := map[string]int{}
	for _, declared := range parsed(t, files, "unseen.go").Decls {
		f, ok := declared.(*ast.FuncDecl)
		if !ok {
			continue
		}
		asked[f.Name.Name]++
		ast.Inspect(f, func(n ast.Node) bool {
			if n != nil && hangsOnWords(n) {
				t.Errorf("%s: %s hangs on what words hold", files.Position(n.Pos()), f.Name.Name)
			}
			return true
		})
	}
	for name, many := range map[string]int{"inverted": 1, "stepped": 2, "combined": 1, "halved": 1, "sign": 1} {
		if asked[name] != many {
			t.Errorf("%s isn't where it is asked", name)
		}
	}
}

// hangsOnWords says whether something goes one way or another, compares, divides, goes on or comes to a place by more than lengths. A loop may go over the steps.
func hangsOnWords(n ast.Node) bool {
	switch n := n.(type) {
	case *ast.IfStmt, *ast.SwitchStmt, *ast.TypeSwitchStmt, *ast.SelectStmt, *ast.ForStmt, *ast.BranchStmt, *ast.SliceExpr:
		return true
	case *ast.RangeStmt:
		call, ok := n.X.(*ast.CallExpr)
		return !ok || !isCallOf(call, "Steps") || !isCount(call.Args[0])
	case *ast.IndexExpr:
		return !isCount(n.Index)
	case *ast.BinaryExpr:
		branching := []token.Token{token.LAND, token.LOR, token.EQL, token.NEQ, token.LSS, token.LEQ, token.GTR, token.GEQ, token.QUO, token.REM}
		return slices.Contains(branching, n.Op)
	}
	return false
}

// isCount says whether an expression is made of numbers written out and lengths.
func isCount(x ast.Expr) bool {
	switch x := x.(type) {
	case *ast.BasicLit:
		return true
	case *ast.Ident:
		return x.Name == "wordBits"
	case *ast.BinaryExpr:
		return isCount(x.X) && isCount(x.Y)
	}
	return isCallOf(x, "len")
}

func isCallOf(x ast.Expr, name string) bool {
	call, ok := x.(*ast.CallExpr)
	if !ok {
		return false
	}
	f, ok := call.Fun.(*ast.Ident)
	return ok && f.Name == name
}

// G2 stands on it that nothing goes by unwritten: every call of a layer below that takes a trace is handed the one that was given.
func TestTraceIsHandedOn(t *testing.T) {
	files := token.NewFileSet()
	handed := 0
	for _, name := range []string{"inverse.go", "unseen.go"} {
		ast.Inspect(parsed(t, files, name), func(n ast.Node) bool {
			call, ok := n.(*ast.CallExpr)
			if !ok || !takesTrace(call.Fun) {
				return true
			}
			handed++
			if first, ok := call.Args[0].(*ast.Ident); !ok || first.Name != "t" {
				t.Errorf("%s: the trace isn't handed on", files.Position(call.Pos()))
			}
			return true
		})
	}
	if handed < 15 {
		t.Errorf("only %d calls were found", handed)
	}
}

// takesTrace says whether it is a function of a layer below that takes a trace: all of limbs, of ring, and of product but Quick and Small.
func takesTrace(f ast.Expr) bool {
	chosen, ok := f.(*ast.SelectorExpr)
	if !ok || slices.Contains([]string{"Quick", "Small"}, chosen.Sel.Name) {
		return false
	}
	from, ok := chosen.X.(*ast.Ident)
	return ok && slices.Contains([]string{"limbs", "ring", "product"}, from.Name)
}
