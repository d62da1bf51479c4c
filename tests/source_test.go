package tests

import (
	"bytes"
	"go/ast"
	"go/format"
	"go/parser"
	"go/token"
	"os"
	"path/filepath"
	"slices"
	"strings"
	"testing"
)

const mostLines = 60

func allowedImports() []string {
	return strings.Fields("bytes cmp container/heap errors iter maps math math/bits slices sort strconv strings sync sync/atomic unicode unicode/utf8")
}

func TestSourceKeepsToTheLanguage(t *testing.T) {
	files, err := filepath.Glob("../impl/*.go")
	if err != nil || len(files) != 10 {
		t.Fatalf("%d files: %v", len(files), err)
	}
	for _, name := range files {
		source, err := os.ReadFile(name)
		if err != nil {
			t.Fatal(err)
		}
		if laid, err := format.Source(source); err != nil || !bytes.Equal(laid, source) {
			t.Errorf("%s has another layout than gofmt's (%v)", name, err)
		}
		places := token.NewFileSet()
		file, err := parser.ParseFile(places, name, source, parser.ParseComments)
		if err != nil {
			t.Fatal(err)
		}
		for _, i := range file.Imports {
			if path := strings.Trim(i.Path.Value, `"`); !slices.Contains(allowedImports(), path) {
				t.Errorf("%s imports %s", name, path)
			}
		}
		for _, d := range file.Decls {
			f, ok := d.(*ast.FuncDecl)
			if ok && places.Position(f.End()).Line-places.Position(f.Pos()).Line >= mostLines {
				t.Errorf("%s: %s is long", name, f.Name.Name)
			}
		}
	}
}
