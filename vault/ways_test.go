package vault_test

import (
	"go/ast"
	"go/parser"
	"go/token"
	"path/filepath"
	"strings"
	"testing"
)

// The chapter's Ways: errors are wrapped, and told apart by errors.As.
func TestWays(t *testing.T) {
	files, err := filepath.Glob("*.go")
	if err != nil {
		t.Fatal(err)
	}
	calls := map[string]int{}
	for _, name := range files {
		if strings.HasSuffix(name, "_test.go") {
			continue
		}
		file, err := parser.ParseFile(token.NewFileSet(), name, nil, 0)
		if err != nil {
			t.Fatal(err)
		}
		ast.Inspect(file, func(n ast.Node) bool {
			if s, ok := n.(*ast.SelectorExpr); ok {
				if x, ok := s.X.(*ast.Ident); ok {
					calls[x.Name+"."+s.Sel.Name]++
				}
			}
			return true
		})
	}
	if calls["errors.As"] == 0 {
		t.Error("Ways: nothing is told apart by errors.As")
	}
	if calls["fault.Wrap"] == 0 {
		t.Error("Ways: nothing is wrapped")
	}
}
