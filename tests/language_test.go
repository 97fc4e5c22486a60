package tests

import (
	"bytes"
	"go/ast"
	"go/format"
	"go/parser"
	"go/token"
	"os"
	"path/filepath"
	"slices"
	"strings"
	"testing"
)

// The packages of the library that the language page allows.
var allowed = strings.Fields(`bytes cmp container/heap errors iter maps math math/bits slices sort
	strconv strings sync sync/atomic unicode unicode/utf8`)

const longestFunction = 60

// TestLanguage holds the program to what the language page says and a text can show.
func TestLanguage(t *testing.T) {
	files, err := os.ReadDir(filepath.Join("..", "impl"))
	if err != nil {
		t.Fatal(err)
	}
	for _, entry := range files {
		name := entry.Name()
		if filepath.Ext(name) != ".go" {
			t.Errorf("%s: not a Go file", name)
			continue
		}
		text, err := os.ReadFile(filepath.Join("..", "impl", name))
		if err != nil {
			t.Fatal(err)
		}
		lookAtFile(t, name, text)
	}
}

func lookAtFile(t *testing.T, name string, text []byte) {
	laid, err := format.Source(text)
	if err != nil {
		t.Fatal(err)
	}
	if !bytes.Equal(laid, text) {
		t.Errorf("%s: not in gofmt's layout", name)
	}
	if bytes.Contains(text, []byte("//go:")) || bytes.Contains(text, []byte("// +build")) {
		t.Errorf("%s: a line that speaks to the compiler", name)
	}
	set := token.NewFileSet()
	file, err := parser.ParseFile(set, name, text, 0)
	if err != nil {
		t.Fatal(err)
	}
	for _, i := range file.Imports {
		if path := strings.Trim(i.Path.Value, `"`); !slices.Contains(allowed, path) {
			t.Errorf("%s: imports %s", name, path)
		}
	}
	for _, d := range file.Decls {
		f, ok := d.(*ast.FuncDecl)
		if !ok {
			continue
		}
		if n := set.Position(f.End()).Line - set.Position(f.Pos()).Line + 1; n > longestFunction {
			t.Errorf("%s: %s has %d lines", name, f.Name.Name, n)
		}
	}
}
