package tests

import (
	"bytes"
	"go/ast"
	"go/format"
	"go/parser"
	"go/token"
	"os"
	"path/filepath"
	"slices"
	"strconv"
	"strings"
	"testing"
)

const mostLines = 60

func allowedImports() []string {
	return []string{"bytes", "cmp", "container/heap", "errors", "iter", "maps", "math", "math/big", "math/bits", "slices",
		"sort", "strconv", "strings", "sync", "sync/atomic", "unicode", "unicode/utf8"}
}

// What of the language page the text of the program alone can show.
func TestProgramKeepsToTheLanguage(t *testing.T) {
	paths, err := filepath.Glob("../impl/*")
	if err != nil || len(paths) == 0 {
		t.Fatalf("no program: %v", err)
	}
	for _, path := range paths {
		if !strings.HasSuffix(path, ".go") {
			t.Errorf("%s is no Go file", path)
			continue
		}
		text, err := os.ReadFile(path)
		if err != nil {
			t.Fatal(err)
		}
		checkFile(t, path, text)
	}
}

func checkFile(t *testing.T, path string, text []byte) {
	if laid, err := format.Source(text); err != nil || !bytes.Equal(laid, text) {
		t.Errorf("%s isn't in gofmt's layout (%v)", path, err)
	}
	if bytes.Contains(text, []byte("//go:")) || bytes.Contains(text, []byte("// +build")) {
		t.Errorf("%s has a line for the compiler", path)
	}
	set := token.NewFileSet()
	file, err := parser.ParseFile(set, path, text, parser.ParseComments)
	if err != nil {
		t.Fatal(err)
	}
	for _, i := range file.Imports {
		if name, err := strconv.Unquote(i.Path.Value); err != nil || !slices.Contains(allowedImports(), name) {
			t.Errorf("%s imports %s", path, i.Path.Value)
		}
	}
	for _, d := range file.Decls {
		f, ok := d.(*ast.FuncDecl)
		if !ok {
			continue
		}
		if n := set.Position(f.End()).Line - set.Position(f.Pos()).Line + 1; n > mostLines {
			t.Errorf("%s: %s has %d lines", path, f.Name.Name, n)
		}
	}
}
