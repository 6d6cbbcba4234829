package lock_test

import (
	"go/ast"
	"go/parser"
	"go/token"
	"slices"
	"testing"
)

// asked is the names of what the function calls with a closure among the arguments.
func asked(f *ast.FuncDecl) []string {
	var l []string
	ast.Inspect(f, func(n ast.Node) bool {
		c, ok := n.(*ast.CallExpr)
		if !ok || !slices.ContainsFunc(c.Args, func(e ast.Expr) bool { _, is := e.(*ast.FuncLit); return is }) {
			return true
		}
		if name, is := c.Fun.(*ast.Ident); is {
			l = append(l, name.Name)
		}
		return true
	})
	return l
}

// The chapter's Ways: whether two locks, or two spans, meet is told by one function, which is given a closure, and asks it with either one first.
func TestWays(t *testing.T) {
	file, err := parser.ParseFile(token.NewFileSet(), "meet.go", nil, 0)
	if err != nil {
		t.Fatal(err)
	}
	found := 0
	for _, d := range file.Decls {
		f, ok := d.(*ast.FuncDecl)
		if !ok || f.Name.Name != "disturb" && f.Name.Name != "meet" {
			continue
		}
		found++
		if !slices.Contains(asked(f), "either") {
			t.Errorf("Ways: %s does not ask either with a closure", f.Name.Name)
		}
	}
	if found != 2 {
		t.Errorf("Ways: %d of two are found", found)
	}
}
