package disk_test

import (
	"go/ast"
	"go/parser"
	"go/token"
	"path/filepath"
	"strings"
	"testing"
)

// is: is it errors.Is, called?
func is(n ast.Node) bool {
	call, ok := n.(*ast.CallExpr)
	if !ok {
		return false
	}
	s, ok := call.Fun.(*ast.SelectorExpr)
	if !ok {
		return false
	}
	x, ok := s.X.(*ast.Ident)
	return ok && x.Name == "errors" && s.Sel.Name == "Is"
}

// array: is it a type that is an array of so many bytes as a sector has?
func array(n ast.Node) bool {
	spec, ok := n.(*ast.TypeSpec)
	if !ok {
		return false
	}
	a, ok := spec.Type.(*ast.ArrayType)
	if !ok || a.Len == nil {
		return false
	}
	s, ok := a.Len.(*ast.SelectorExpr)
	return ok && s.Sel.Name == "Sector"
}

// The chapter's Ways: sectors are arrays, and an error of the disk is held by errors.Is.
func TestWays(t *testing.T) {
	files, err := filepath.Glob("*.go")
	if err != nil {
		t.Fatal(err)
	}
	held, arrays := 0, 0
	for _, name := range files {
		if strings.HasSuffix(name, "_test.go") {
			continue
		}
		file, err := parser.ParseFile(token.NewFileSet(), name, nil, 0)
		if err != nil {
			t.Fatal(err)
		}
		ast.Inspect(file, func(n ast.Node) bool {
			if is(n) {
				held++
			}
			if array(n) {
				arrays++
			}
			return true
		})
	}
	if held == 0 {
		t.Error("Ways: no error is held by errors.Is")
	}
	if arrays == 0 {
		t.Error("Ways: sectors are no arrays")
	}
}
