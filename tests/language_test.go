package tests

import (
	"bytes"
	"go/ast"
	"go/format"
	"go/parser"
	"go/token"
	"os"
	"path/filepath"
	"strings"
	"testing"
)

const allowedImports = " bytes cmp container/heap errors iter maps math math/bits slices sort strconv strings sync sync/atomic unicode unicode/utf8 "

// What of the language page can be seen in the program's text: imports, directives, layout, the length of functions.
func TestProgramKeepsToItsLanguage(t *testing.T) {
	paths, err := filepath.Glob("../impl/*")
	if err != nil || len(paths) == 0 {
		t.Fatal("no program", err)
	}
	for _, path := range paths {
		if strings.HasSuffix(path, "_test.go") {
			continue
		}
		if !strings.HasSuffix(path, ".go") {
			t.Errorf("%s: beside the Go files", path)
			continue
		}
		text, err := os.ReadFile(path)
		if err != nil {
			t.Fatal(err)
		}
		checkText(t, path, text)
		checkFile(t, path, text)
	}
}

func checkText(t *testing.T, path string, text []byte) {
	t.Helper()
	if neat, err := format.Source(text); err != nil || !bytes.Equal(neat, text) {
		t.Errorf("%s: not in gofmt's layout %v", path, err)
	}
	for _, barred := range []string{"//go:", "// +build"} {
		if bytes.Contains(text, []byte(barred)) {
			t.Errorf("%s: has %s", path, barred)
		}
	}
}

func checkFile(t *testing.T, path string, text []byte) {
	t.Helper()
	set := token.NewFileSet()
	file, err := parser.ParseFile(set, path, text, parser.SkipObjectResolution)
	if err != nil {
		t.Fatal(err)
	}
	for _, i := range file.Imports {
		if !strings.Contains(allowedImports, " "+strings.Trim(i.Path.Value, `"`)+" ") {
			t.Errorf("%s: imports %s", path, i.Path.Value)
		}
	}
	for _, d := range file.Decls {
		if f, ok := d.(*ast.FuncDecl); ok {
			if lines := set.Position(f.End()).Line - set.Position(f.Pos()).Line + 1; lines > 60 {
				t.Errorf("%s: %s has %d lines", path, f.Name.Name, lines)
			}
		}
	}
}
