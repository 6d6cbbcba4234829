package pages_test

import (
	"go/ast"
	"go/parser"
	"go/token"
	"path/filepath"
	"strings"
	"testing"
)

// scanned: is it a range over what Scan answers?
func scanned(n ast.Node) bool {
	r, is := n.(*ast.RangeStmt)
	if !is {
		return false
	}
	call, is := r.X.(*ast.CallExpr)
	if !is {
		return false
	}
	of, is := call.Fun.(*ast.SelectorExpr)
	return is && of.Sel.Name == "Scan"
}

// nested: is it a field that is a slice of slices?
func nested(n ast.Node) bool {
	field, is := n.(*ast.Field)
	if !is {
		return false
	}
	outer, is := field.Type.(*ast.ArrayType)
	if !is || outer.Len != nil {
		return false
	}
	inner, is := outer.Elt.(*ast.ArrayType)
	return is && inner.Len == nil
}

// The chapter's Ways: pages are a slice of slices, and Scan is ranged over.
func TestWays(t *testing.T) {
	files, err := filepath.Glob("*.go")
	if err != nil {
		t.Fatal(err)
	}
	ranges, slices := 0, 0
	for _, name := range files {
		if strings.HasSuffix(name, "_test.go") {
			continue
		}
		file, err := parser.ParseFile(token.NewFileSet(), name, nil, 0)
		if err != nil {
			t.Fatal(err)
		}
		ast.Inspect(file, func(n ast.Node) bool {
			if scanned(n) {
				ranges++
			}
			if s, is := n.(*ast.StructType); is {
				for _, field := range s.Fields.List {
					if nested(field) {
						slices++
					}
				}
			}
			return true
		})
	}
	if ranges == 0 {
		t.Error("Ways: nothing ranges over Scan")
	}
	if slices == 0 {
		t.Error("Ways: pages are no slice of slices")
	}
}
