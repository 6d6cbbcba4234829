package rows_test

import (
	"go/ast"
	"go/parser"
	"go/token"
	"testing"
)

// asks is which functions of which packages each function of a file calls.
func asks(t *testing.T, name string) map[string]map[string]bool {
	t.Helper()
	file, err := parser.ParseFile(token.NewFileSet(), name, nil, 0)
	if err != nil {
		t.Fatal(err)
	}
	out := map[string]map[string]bool{}
	for _, d := range file.Decls {
		f, ok := d.(*ast.FuncDecl)
		if !ok {
			continue
		}
		out[f.Name.Name] = map[string]bool{}
		ast.Inspect(f, func(n ast.Node) bool {
			if s, is := n.(*ast.SelectorExpr); is {
				if x, plain := s.X.(*ast.Ident); plain {
					out[f.Name.Name][x.Name+"."+s.Sel.Name] = true
				}
			}
			return true
		})
	}
	return out
}

// The chapter's Ways: what refuses is wrapped by a fault, and told by its code, in all calls that tell whether it was refused.
func TestWays(t *testing.T) {
	told := asks(t, "rows.go")
	for name, by := range map[string]string{"Right": "fault.Is", "Fits": "fault.Is", "Row": "fault.Is", "Owner": "fault.Is", "Span": "fault.Code", "Within": "fault.Code"} {
		if !told[name][by] {
			t.Errorf("Ways: %s does not ask %s", name, by)
		}
	}
	if !asks(t, "bytes.go")["behind"]["fault.New"] || !asks(t, "bytes.go")["span"]["fault.Wrap"] {
		t.Error("Ways: what Enc refuses is not wrapped")
	}
}
