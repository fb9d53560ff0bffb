package tests

import (
	"bytes"
	"go/ast"
	"go/format"
	"go/parser"
	"go/token"
	"os"
	"path/filepath"
	"slices"
	"strings"
	"testing"
)

const mostLines = 60

var allowedImports = []string{
	"bytes", "cmp", "container/heap", "errors", "iter", "maps", "math", "math/big", "math/bits", "slices", "sort",
	"strconv", "strings", "sync", "sync/atomic", "unicode", "unicode/utf8",
}

func TestProgramKeepsToItsLanguage(t *testing.T) {
	files, err := os.ReadDir("../impl")
	if err != nil || len(files) == 0 {
		t.Fatal("no files of the program", err)
	}
	for _, file := range files {
		name := filepath.Join("../impl", file.Name())
		if file.IsDir() || filepath.Ext(name) != ".go" {
			t.Error(name, "is no Go file")
			continue
		}
		source, err := os.ReadFile(name)
		if err != nil {
			t.Fatal(err)
		}
		checkSource(t, name, source)
	}
}

func checkSource(t *testing.T, name string, source []byte) {
	layout, err := format.Source(source)
	if err != nil {
		t.Fatal(err)
	}
	if !bytes.Equal(layout, source) {
		t.Error(name, "has not gofmt's layout")
	}
	fset := token.NewFileSet()
	file, err := parser.ParseFile(fset, name, source, parser.ParseComments)
	if err != nil {
		t.Fatal(err)
	}
	for _, i := range file.Imports {
		if path := strings.Trim(i.Path.Value, `"`); !slices.Contains(allowedImports, path) {
			t.Error(name, "imports", path)
		}
	}
	for _, group := range file.Comments {
		for _, c := range group.List {
			if strings.HasPrefix(c.Text, "//go:") || strings.HasPrefix(c.Text, "// +build") {
				t.Error(name, "has the line", c.Text)
			}
		}
	}
	for _, d := range file.Decls {
		if f, ok := d.(*ast.FuncDecl); ok && fset.Position(f.End()).Line-fset.Position(f.Pos()).Line >= mostLines {
			t.Error(name, "has a function that is too long:", f.Name.Name)
		}
	}
}

func TestProjectHasNoOtherFolders(t *testing.T) {
	entries, err := os.ReadDir("..")
	if err != nil {
		t.Fatal(err)
	}
	for _, e := range entries {
		if e.IsDir() && !slices.Contains([]string{"impl", "tests", ".ci", ".git", "sharedtests"}, e.Name()) { // sharedtests: in the throw-away copy alone
			t.Error("the project has the folder", e.Name())
		}
	}
}
