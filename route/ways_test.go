package route_test

import (
	"go/ast"
	"go/parser"
	"go/token"
	"testing"
)

// The chapter's Ways: which groups a span meets is told by a switch that falls from rows to entries.
func TestWays(t *testing.T) {
	file, err := parser.ParseFile(token.NewFileSet(), "route.go", nil, 0)
	if err != nil {
		t.Fatal(err)
	}
	falls := 0
	for _, d := range file.Decls {
		f, ok := d.(*ast.FuncDecl)
		if !ok || f.Name.Name != "Over" {
			continue
		}
		ast.Inspect(f, func(n ast.Node) bool {
			if b, is := n.(*ast.BranchStmt); is && b.Tok == token.FALLTHROUGH {
				falls++
			}
			return true
		})
	}
	if falls != 1 {
		t.Errorf("Ways: the switch of Over falls at %d places", falls)
	}
}
