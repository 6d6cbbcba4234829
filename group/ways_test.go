package group_test

import (
	"go/ast"
	"go/parser"
	"go/token"
	"path/filepath"
	"strings"
	"testing"
)

// The chapter's Ways: errors of vaults are wrapped with the node's place, and told apart by errors.As. (Their places: TestStartRefuses.)
func TestWays(t *testing.T) {
	files, err := filepath.Glob("*.go")
	if err != nil {
		t.Fatal(err)
	}
	asked, wrapped := false, false
	for _, name := range files {
		if strings.HasSuffix(name, "_test.go") {
			continue
		}
		file, err := parser.ParseFile(token.NewFileSet(), name, nil, 0)
		if err != nil {
			t.Fatal(err)
		}
		ast.Inspect(file, func(n ast.Node) bool {
			if c, ok := n.(*ast.CallExpr); ok {
				asked = asked || selects(c.Fun, "errors", "As")
				wrapped = wrapped || selects(c.Fun, "fault", "Wrap")
			}
			return true
		})
	}
	if !asked || !wrapped {
		t.Errorf("Ways: errors.As: %v; fault.Wrap: %v", asked, wrapped)
	}
}

func selects(e ast.Expr, pack, name string) bool {
	s, ok := e.(*ast.SelectorExpr)
	if !ok {
		return false
	}
	x, ok := s.X.(*ast.Ident)
	return ok && x.Name == pack && s.Sel.Name == name
}
