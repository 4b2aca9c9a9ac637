package word_test

import (
	"go/ast"
	"go/parser"
	"go/token"
	"os"
	"strings"
	"testing"
)

// P1.7: branches aren't to be seen in answers, so the package's text is asked. A range goes over a constant, or over Get's count of bytes; an index is made of range keys and constants.
func TestNoBranches(t *testing.T) {
	entries, err := os.ReadDir(".")
	if err != nil {
		t.Fatal(err)
	}
	asked := 0
	for _, entry := range entries {
		if strings.HasSuffix(entry.Name(), ".go") && !strings.HasSuffix(entry.Name(), "_test.go") {
			asked += askFile(t, entry.Name())
		}
	}
	if asked < 11 {
		t.Errorf("only %d functions were found", asked)
	}
}

func askFile(t *testing.T, name string) int {
	files := token.NewFileSet()
	file, err := parser.ParseFile(files, name, nil, 0)
	if err != nil {
		t.Fatal(err)
	}
	fixed := constants(file)
	asked := 0
	for _, declared := range file.Decls {
		f, ok := declared.(*ast.FuncDecl)
		if !ok {
			continue
		}
		asked++
		for _, fault := range faults(f, fixed) {
			t.Errorf("%s: %s hangs on what words hold", files.Position(fault.Pos()), f.Name.Name)
		}
	}
	return asked
}

// constants are the names of a file's constants at package level.
func constants(file *ast.File) map[string]int {
	names := map[string]int{}
	for _, declared := range file.Decls {
		g, ok := declared.(*ast.GenDecl)
		if !ok || g.Tok != token.CONST {
			continue
		}
		for _, spec := range g.Specs {
			for _, name := range spec.(*ast.ValueSpec).Names {
				names[name.Name] = 1
			}
		}
	}
	return names
}

// faults are the nodes of a function that branch, compare, divide, or index by more than range keys and constants.
func faults(f *ast.FuncDecl, fixed map[string]int) []ast.Node {
	known := rangeKeys(f, fixed)
	var found []ast.Node
	ast.Inspect(f, func(n ast.Node) bool {
		bad := false
		switch n := n.(type) {
		case *ast.IfStmt, *ast.SwitchStmt, *ast.TypeSwitchStmt, *ast.SelectStmt, *ast.ForStmt, *ast.BranchStmt, *ast.SliceExpr:
			bad = !isWhole(n)
		case *ast.BinaryExpr:
			bad = branches(n.Op)
		case *ast.AssignStmt:
			bad = n.Tok == token.QUO_ASSIGN || n.Tok == token.REM_ASSIGN
		case *ast.RangeStmt:
			bad = !isKnown(n.X, fixed) && !isCount(f, n.X, fixed)
		case *ast.IndexExpr:
			bad = !isKnown(n.Index, known)
		case *ast.CallExpr:
			bad = (isCallOf(n, "min") || isCallOf(n, "max")) && !isCount(f, n, fixed)
		}
		if bad {
			found = append(found, n)
		}
		return true
	})
	return found
}

func branches(op token.Token) bool {
	switch op {
	case token.LAND, token.LOR, token.EQL, token.NEQ, token.LSS, token.LEQ, token.GTR, token.GEQ, token.QUO, token.REM:
		return true
	}
	return false
}

// isWhole says whether a node cuts all of an array out, for which no place is asked.
func isWhole(n ast.Node) bool {
	cut, ok := n.(*ast.SliceExpr)
	return ok && cut.Low == nil && cut.High == nil && cut.Max == nil
}

// rangeKeys are the constants and the keys of a function's ranges.
func rangeKeys(f *ast.FuncDecl, fixed map[string]int) map[string]int {
	names := map[string]int{}
	for name := range fixed {
		names[name] = 1
	}
	ast.Inspect(f, func(n ast.Node) bool {
		if r, ok := n.(*ast.RangeStmt); ok {
			if key, ok := r.Key.(*ast.Ident); ok {
				names[key.Name] = 1
			}
		}
		return true
	})
	return names
}

// isKnown says whether an expression is made of numbers written out and the names given.
func isKnown(x ast.Expr, names map[string]int) bool {
	switch x := x.(type) {
	case *ast.BasicLit:
		return true
	case *ast.Ident:
		return names[x.Name] == 1
	case *ast.ParenExpr:
		return isKnown(x.X, names)
	case *ast.BinaryExpr:
		return isKnown(x.X, names) && isKnown(x.Y, names)
	}
	return false
}

// isCount says whether an expression is how many of Get's bytes are read: the least of constants and the list's length.
func isCount(f *ast.FuncDecl, x ast.Expr, fixed map[string]int) bool {
	call, ok := x.(*ast.CallExpr)
	if !ok || f.Name.Name != "Get" || !isCallOf(call, "min") {
		return false
	}
	for _, part := range call.Args {
		inner, ok := part.(*ast.CallExpr)
		if !isKnown(part, fixed) && !(ok && isCallOf(inner, "len")) {
			return false
		}
	}
	return true
}

func isCallOf(call *ast.CallExpr, name string) bool {
	f, ok := call.Fun.(*ast.Ident)
	return ok && f.Name == name
}
