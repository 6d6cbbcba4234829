package fault_test

import (
	"go/ast"
	"go/parser"
	"go/token"
	"path/filepath"
	"strings"
	"testing"
)

// The chapter's Ways: the code is found by errors.As, and held by errors.Is; Again falls through.
func TestWays(t *testing.T) {
	funcs := funcDecls(t)
	if !names(funcs["Code"], "errors", "As") {
		t.Error("Ways: Code has no errors.As")
	}
	if !names(funcs["Is"], "errors", "Is") {
		t.Error("Ways: Is has no errors.Is")
	}
	falls := 0
	ast.Inspect(funcs["Again"], func(n ast.Node) bool {
		if b, is := n.(*ast.BranchStmt); is && b.Tok == token.FALLTHROUGH {
			falls++
		}
		return true
	})
	if falls == 0 {
		t.Error("Ways: Again has no fallthrough")
	}
}

// names: is pack.name spoken of in the function?
func names(f *ast.FuncDecl, pack, name string) bool {
	found := false
	ast.Inspect(f, func(n ast.Node) bool {
		if s, is := n.(*ast.SelectorExpr); is {
			x, plain := s.X.(*ast.Ident)
			found = found || plain && x.Name == pack && s.Sel.Name == name
		}
		return true
	})
	return found
}

// funcDecls: the functions of the package's own files that are no methods.
func funcDecls(t *testing.T) map[string]*ast.FuncDecl {
	t.Helper()
	files, err := filepath.Glob("*.go")
	if err != nil {
		t.Fatal(err)
	}
	out := map[string]*ast.FuncDecl{}
	for _, name := range files {
		if strings.HasSuffix(name, "_test.go") {
			continue
		}
		file, err := parser.ParseFile(token.NewFileSet(), name, nil, 0)
		if err != nil {
			t.Fatal(err)
		}
		for _, d := range file.Decls {
			if f, ok := d.(*ast.FuncDecl); ok && f.Recv == nil {
				out[f.Name.Name] = f
			}
		}
	}
	for _, name := range []string{"Code", "Is", "Again"} {
		if out[name] == nil {
			t.Fatalf("there is no function %s", name)
		}
	}
	return out
}
