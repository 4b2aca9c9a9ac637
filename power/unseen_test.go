package power_test

import (
	"go/ast"
	"go/parser"
	"go/token"
	"slices"
	"testing"
)

// P8.1: branches and places that nobody writes down aren't to be seen in a trace, so the text of the file that all powers go by is asked. It may count by lengths and by numbers written out alone.
func TestNoBranches(t *testing.T) {
	files := token.NewFileSet()
	file, err := parser.ParseFile(files, "unseen.go", nil, 0)
	if err != nil {
		t.Fatal(err)
	}
	asked := map[string]int{}
	for _, declared := range file.Decls {
		f, ok := declared.(*ast.FuncDecl)
		if !ok {
			continue
		}
		asked[f.Name.Name]++
		keys := keysOfCounts(f)
		ast.Inspect(f, func(n ast.Node) bool {
			if n != nil && hangsOnWords(n, keys) {
				t.Errorf("%s: %s hangs on what words hold", files.Position(n.Pos()), f.Name.Name)
			}
			return true
		})
	}
	for _, name := range []string{"powers", "raised", "windows"} {
		if asked[name] != 1 {
			t.Errorf("%s isn't where it is asked", name)
		}
	}
}

// keysOfCounts are the names of this file's constants and of the keys of ranges over counts.
func keysOfCounts(f *ast.FuncDecl) []string {
	keys := []string{"windowBits", "wordBits", "windowMask"}
	ast.Inspect(f, func(n ast.Node) bool {
		if loop, ok := n.(*ast.RangeStmt); ok && isCount(loop.X, keys) {
			if key, ok := loop.Key.(*ast.Ident); ok {
				keys = append(keys, key.Name)
			}
		}
		return true
	})
	return keys
}

// hangsOnWords says whether something goes one way or another, compares, divides, goes on or comes to a place by more than counts. An iterator may end when its loop does, and a loop may go over the windows.
func hangsOnWords(n ast.Node, keys []string) bool {
	switch n := n.(type) {
	case *ast.SwitchStmt, *ast.TypeSwitchStmt, *ast.SelectStmt, *ast.ForStmt, *ast.BranchStmt, *ast.SliceExpr:
		return true
	case *ast.IfStmt:
		not, ok := n.Cond.(*ast.UnaryExpr)
		return !ok || not.Op != token.NOT || !isCallOf(not.X, "yield")
	case *ast.RangeStmt:
		return !isCount(n.X, keys) && !isCallOf(n.X, "windows")
	case *ast.IndexExpr:
		// iter.Seq[uint64] is a type, no place.
		kind, ok := n.Index.(*ast.Ident)
		return !isCount(n.Index, keys) && !(ok && kind.Name == "uint64")
	case *ast.BinaryExpr:
		branching := []token.Token{token.LAND, token.LOR, token.EQL, token.NEQ, token.LSS, token.LEQ, token.GTR, token.GEQ, token.QUO, token.REM}
		return slices.Contains(branching, n.Op) && !isCount(n, keys)
	}
	return false
}

// isCount says whether an expression is made of numbers written out, lengths, and the names given.
func isCount(x ast.Expr, keys []string) bool {
	switch x := x.(type) {
	case *ast.BasicLit:
		return true
	case *ast.Ident:
		return slices.Contains(keys, x.Name)
	case *ast.BinaryExpr:
		return isCount(x.X, keys) && isCount(x.Y, keys)
	}
	return isCallOf(x, "len")
}

func isCallOf(x ast.Expr, name string) bool {
	call, ok := x.(*ast.CallExpr)
	if !ok {
		return false
	}
	f, ok := call.Fun.(*ast.Ident)
	return ok && f.Name == name
}

// G2 stands on it that nothing goes by unwritten: every call of a layer below that takes a trace is handed the one that was given, and the powers of a window come by limbs.Pick.
func TestTraceIsHandedOn(t *testing.T) {
	files := token.NewFileSet()
	handed := map[string]int{}
	for _, name := range []string{"power.go", "unseen.go"} {
		file, err := parser.ParseFile(files, name, nil, 0)
		if err != nil {
			t.Fatal(err)
		}
		ast.Inspect(file, func(n ast.Node) bool {
			call, ok := n.(*ast.CallExpr)
			if !ok {
				return true
			}
			below := nameBelow(call.Fun)
			if below == "" {
				return true
			}
			handed[below]++
			if first, ok := call.Args[0].(*ast.Ident); !ok || first.Name != "t" {
				t.Errorf("%s: the trace isn't handed on", files.Position(call.Pos()))
			}
			return true
		})
	}
	for _, name := range []string{"mont.Enter", "mont.Mul", "mont.Leave", "limbs.Pick"} {
		if handed[name] == 0 {
			t.Errorf("%s isn't called", name)
		}
	}
}

// nameBelow is the name of a function of a layer below that takes a trace (all but mont's Setup, Check and One do), else none.
func nameBelow(f ast.Expr) string {
	chosen, ok := f.(*ast.SelectorExpr)
	if !ok || slices.Contains([]string{"Setup", "Check", "One"}, chosen.Sel.Name) {
		return ""
	}
	from, ok := chosen.X.(*ast.Ident)
	if !ok || from.Name != "mont" && from.Name != "limbs" {
		return ""
	}
	return from.Name + "." + chosen.Sel.Name
}
