package code_test

import (
	"go/ast"
	"go/parser"
	"go/token"
	"path/filepath"
	"strings"
	"testing"
)

// The chapter's Ways: a number's bytes are made by shifts, and narrowed by conversions.
func TestWays(t *testing.T) {
	num := numDecl(t)
	shifts, narrowed := 0, 0
	ast.Inspect(num, func(n ast.Node) bool {
		switch x := n.(type) {
		case *ast.AssignStmt:
			if x.Tok == token.SHR_ASSIGN {
				shifts++
			}
		case *ast.BinaryExpr:
			if x.Op == token.SHR {
				shifts++
			}
		case *ast.CallExpr:
			if f, ok := x.Fun.(*ast.Ident); ok && (f.Name == "byte" || f.Name == "uint8") {
				narrowed++
			}
		}
		return true
	})
	if shifts == 0 {
		t.Error("Ways: Num has no shift")
	}
	if narrowed == 0 {
		t.Error("Ways: Num has no conversion to a byte")
	}
}

// numDecl: the function Num of the package's own files.
func numDecl(t *testing.T) *ast.FuncDecl {
	t.Helper()
	files, err := filepath.Glob("*.go")
	if err != nil {
		t.Fatal(err)
	}
	for _, name := range files {
		if strings.HasSuffix(name, "_test.go") {
			continue
		}
		file, err := parser.ParseFile(token.NewFileSet(), name, nil, 0)
		if err != nil {
			t.Fatal(err)
		}
		for _, d := range file.Decls {
			if f, ok := d.(*ast.FuncDecl); ok && f.Recv == nil && f.Name.Name == "Num" {
				return f
			}
		}
	}
	t.Fatal("there is no function Num")
	return nil
}
