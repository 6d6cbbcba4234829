package raft_test

import (
	"go/ast"
	"go/parser"
	"go/token"
	"path/filepath"
	"strings"
	"testing"
)

// The chapter's Ways: a message's kind leads to its reading by a switch in which an elder term falls to the refusal.
func TestWays(t *testing.T) {
	files, err := filepath.Glob("*.go")
	if err != nil {
		t.Fatal(err)
	}
	found := false
	for _, name := range files {
		if strings.HasSuffix(name, "_test.go") {
			continue
		}
		file, err := parser.ParseFile(token.NewFileSet(), name, nil, 0)
		if err != nil {
			t.Fatal(err)
		}
		ast.Inspect(file, func(n ast.Node) bool {
			if s, ok := n.(*ast.SwitchStmt); ok {
				found = found || falls(s) && names(s, "Kind")
			}
			return true
		})
	}
	if !found {
		t.Error("Ways: no switch over a message's kind falls through")
	}
}

// falls: has a switch a fallthrough of its own?
func falls(s *ast.SwitchStmt) bool {
	for _, c := range s.Body.List {
		for _, x := range c.(*ast.CaseClause).Body {
			if b, ok := x.(*ast.BranchStmt); ok && b.Tok == token.FALLTHROUGH {
				return true
			}
		}
	}
	return false
}

// names: does a field of that name stand in it?
func names(n ast.Node, field string) bool {
	found := false
	ast.Inspect(n, func(n ast.Node) bool {
		if s, ok := n.(*ast.SelectorExpr); ok && s.Sel.Name == field {
			found = true
		}
		return true
	})
	return found
}
