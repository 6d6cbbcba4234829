package tuple_test

import (
	"go/ast"
	"go/parser"
	"go/token"
	"path/filepath"
	"strings"
	"testing"
)

// The chapter's Ways: a kind's bytes are told by a switch that falls from one case to the next.
func TestWays(t *testing.T) {
	files, err := filepath.Glob("*.go")
	if err != nil {
		t.Fatal(err)
	}
	falls := 0
	for _, name := range files {
		if strings.HasSuffix(name, "_test.go") {
			continue
		}
		file, err := parser.ParseFile(token.NewFileSet(), name, nil, 0)
		if err != nil {
			t.Fatal(err)
		}
		ast.Inspect(file, func(n ast.Node) bool {
			if b, is := n.(*ast.BranchStmt); is && b.Tok == token.FALLTHROUGH {
				falls++
			}
			return true
		})
	}
	if falls == 0 {
		t.Error("Ways: no switch falls from one case to the next")
	}
}
