package wal_test

import (
	"go/ast"
	"go/parser"
	"go/token"
	"path/filepath"
	"strings"
	"testing"
)

// The chapter's Ways: what the disk answers is wrapped, and told by errors.Is.
func TestWays(t *testing.T) {
	files, err := filepath.Glob("*.go")
	if err != nil {
		t.Fatal(err)
	}
	calls := map[string]int{}
	for _, name := range files {
		if strings.HasSuffix(name, "_test.go") {
			continue
		}
		file, err := parser.ParseFile(token.NewFileSet(), name, nil, 0)
		if err != nil {
			t.Fatal(err)
		}
		ast.Inspect(file, func(n ast.Node) bool {
			if s, ok := n.(*ast.SelectorExpr); ok {
				if x, ok := s.X.(*ast.Ident); ok {
					calls[x.Name+"."+s.Sel.Name]++
				}
			}
			return true
		})
	}
	if calls["errors.Is"] == 0 {
		t.Error("Ways: nothing is told by errors.Is")
	}
	if calls["fault.New"]+calls["fault.Wrap"] == 0 {
		t.Error("Ways: nothing is wrapped")
	}
}
