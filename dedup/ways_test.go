package dedup_test

import (
	"go/ast"
	"go/parser"
	"go/token"
	"path/filepath"
	"strings"
	"testing"
)

// The chapter's Ways: answers are kept in a map that a call makes, and saved by rising clients.
func TestWays(t *testing.T) {
	files, err := filepath.Glob("*.go")
	if err != nil {
		t.Fatal(err)
	}
	made := 0
	sorted := map[string]int{} // how often, by the function
	for _, name := range files {
		if strings.HasSuffix(name, "_test.go") {
			continue
		}
		file, err := parser.ParseFile(token.NewFileSet(), name, nil, 0)
		if err != nil {
			t.Fatal(err)
		}
		for _, d := range file.Decls {
			f, ok := d.(*ast.FuncDecl)
			if !ok {
				continue
			}
			ast.Inspect(f, func(n ast.Node) bool {
				if makesMap(n) {
					made++
				}
				if sortsKeys(n) {
					sorted[f.Name.Name]++
				}
				return true
			})
		}
	}
	if made == 0 {
		t.Error("Ways: no call makes a map")
	}
	if sorted["Save"] == 0 {
		t.Error("Ways: Save does not sort a map's keys")
	}
}

// makesMap: is it a map that is made?
func makesMap(n ast.Node) bool {
	c, ok := n.(*ast.CallExpr)
	if !ok || len(c.Args) == 0 {
		return false
	}
	f, ok := c.Fun.(*ast.Ident)
	_, is := c.Args[0].(*ast.MapType)
	return ok && f.Name == "make" && is
}

// sortsKeys: is it slices.Sorted of a map's keys?
func sortsKeys(n ast.Node) bool {
	c, ok := n.(*ast.CallExpr)
	if !ok || !selects(c.Fun, "slices", "Sorted") || len(c.Args) != 1 {
		return false
	}
	keys, ok := c.Args[0].(*ast.CallExpr)
	return ok && selects(keys.Fun, "maps", "Keys")
}

func selects(e ast.Expr, pack, name string) bool {
	s, ok := e.(*ast.SelectorExpr)
	if !ok {
		return false
	}
	x, ok := s.X.(*ast.Ident)
	return ok && x.Name == pack && s.Sel.Name == name
}
