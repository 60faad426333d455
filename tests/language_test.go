package tests

import (
	"bytes"
	"go/ast"
	"go/format"
	"go/parser"
	"go/token"
	"os"
	"path/filepath"
	"slices"
	"strings"
	"testing"
)

// These are what the language page lets the program import.
var allowedImports = strings.Fields("bytes cmp container/heap errors iter maps math math/bits slices sort strconv strings sync sync/atomic unicode unicode/utf8")

const mostLines = 60

func TestProgramKeepsToTheLanguage(t *testing.T) {
	paths, err := filepath.Glob("../impl/*.go")
	if err != nil || len(paths) == 0 {
		t.Fatal("no program:", err)
	}
	for _, path := range paths {
		source, err := os.ReadFile(path)
		if err != nil {
			t.Fatal(err)
		}
		checkLayout(t, path, source)
		checkFile(t, path, source)
	}
}

func checkLayout(t *testing.T, path string, source []byte) {
	laid, err := format.Source(source)
	if err != nil || !bytes.Equal(laid, source) {
		t.Error(path, "is not in gofmt's layout:", err)
	}
	if bytes.Contains(source, []byte("//go:")) {
		t.Error(path, "has a line for the compiler")
	}
}

func checkFile(t *testing.T, path string, source []byte) {
	set := token.NewFileSet()
	file, err := parser.ParseFile(set, path, source, 0)
	if err != nil {
		t.Fatal(err)
	}
	for _, spec := range file.Imports {
		if name := strings.Trim(spec.Path.Value, `"`); !slices.Contains(allowedImports, name) {
			t.Error(path, "imports", name)
		}
	}
	for _, decl := range file.Decls {
		f, ok := decl.(*ast.FuncDecl)
		if !ok {
			continue
		}
		if lines := set.Position(f.End()).Line - set.Position(f.Pos()).Line + 1; lines > mostLines {
			t.Error(path, f.Name.Name, "has", lines, "lines")
		}
	}
}
