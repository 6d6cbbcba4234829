package wire_test

import (
	"go/ast"
	"go/parser"
	"go/token"
	"testing"
)

// The chapter's Ways: whatever reads a thing of package api reads its fields by the reader's method values.
func TestWays(t *testing.T) {
	file, err := parser.ParseFile(token.NewFileSet(), "read.go", nil, 0)
	if err != nil {
		t.Fatal(err)
	}
	things := 0
	for _, d := range file.Decls {
		f, ok := d.(*ast.FuncDecl)
		if !ok || f.Recv == nil || !answersThing(f) {
			continue
		}
		things++
		if values, calls := uses(f); values == 0 || calls > 0 {
			t.Errorf("Ways: %s has %d method values, and %d calls that go without", f.Name.Name, values, calls)
		}
	}
	if things < 17 {
		t.Errorf("Ways: %d things are read by method values; package api has 17 here", things)
	}
}

// answersThing: has its result a name? (Those that read a thing field by field have.)
func answersThing(f *ast.FuncDecl) bool {
	return f.Type.Results != nil && len(f.Type.Results.List) == 1 && len(f.Type.Results.List[0].Names) == 1
}

// uses: how often a method of its receiver is a value there, and how often it is called.
func uses(f *ast.FuncDecl) (values, calls int) {
	self := f.Recv.List[0].Names[0].Name
	called := map[ast.Expr]bool{}
	ast.Inspect(f.Body, func(n ast.Node) bool {
		if c, ok := n.(*ast.CallExpr); ok {
			called[c.Fun] = true
		}
		if s, ok := n.(*ast.SelectorExpr); ok {
			if x, ok := s.X.(*ast.Ident); ok && x.Name == self {
				if called[s] {
					calls++
				} else {
					values++
				}
			}
		}
		return true
	})
	return values, calls
}
