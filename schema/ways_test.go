package schema_test

import (
	"go/ast"
	"go/parser"
	"go/token"
	"testing"
)

// The chapter's Ways: what a state does is told by a switch that falls from more to less, for all three calls.
func TestWays(t *testing.T) {
	file, err := parser.ParseFile(token.NewFileSet(), "state.go", nil, 0)
	if err != nil {
		t.Fatal(err)
	}
	falls := map[string]int{}
	asks := map[string]bool{}
	for _, d := range file.Decls {
		f, ok := d.(*ast.FuncDecl)
		if !ok {
			continue
		}
		ast.Inspect(f, func(n ast.Node) bool {
			if b, is := n.(*ast.BranchStmt); is && b.Tok == token.FALLTHROUGH {
				falls[f.Name.Name]++
			}
			if c, is := n.(*ast.CallExpr); is {
				if to, is := c.Fun.(*ast.Ident); is && to.Name == "does" {
					asks[f.Name.Name] = true
				}
			}
			return true
		})
	}
	if falls["does"] != 2 {
		t.Errorf("Ways: the switch falls at %d places", falls["does"])
	}
	for _, name := range []string{"Reads", "Writes", "Deletes"} {
		if !asks[name] {
			t.Errorf("Ways: %s does not ask the switch", name)
		}
	}
}
