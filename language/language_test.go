// Package language holds the program's files to the rules of shared/LANGUAGE.md and of DOC.md's map, as far as their text shows it.
package language

import (
	"bytes"
	"go/ast"
	"go/format"
	"go/parser"
	"go/token"
	"io/fs"
	"os"
	"path/filepath"
	"slices"
	"strconv"
	"strings"
	"testing"
)

const (
	module    = "hallmark/"
	maxLength = 60 // lines of a function
	testsOnly = "specimen"

	allowed = " bytes cmp container/heap errors iter maps math math/big math/bits slices sort strconv strings sync sync/atomic unicode unicode/utf8 "
)

// layers are api and the layers' packages in the order of their stages: each one calls those ahead of it alone.
func layers() []string {
	return strings.Fields("api tens utf value token reader writer order path shape member below tidy lattice sample schema word syntax show scope arith prim library eval place pull rules narrow infer blame lower fast driver")
}

// programFiles are the files of the program without its tests, and without those that .ci/run lays beside it.
func programFiles(t *testing.T) []string {
	t.Helper()
	var out []string
	err := filepath.WalkDir("..", func(path string, d fs.DirEntry, err error) error {
		if err != nil {
			return err
		}
		hidden := strings.HasPrefix(d.Name(), ".") && d.Name() != ".."
		if d.IsDir() && (hidden || d.Name() == "sharedtests" || d.Name() == "testdata") {
			return fs.SkipDir
		}
		if !d.IsDir() && strings.HasSuffix(path, ".go") && !strings.HasSuffix(path, "_test.go") {
			out = append(out, path)
		}
		return nil
	})
	if err != nil {
		t.Fatal(err)
	}
	if len(out) < len(layers()) {
		t.Fatalf("only %d files of the program are here", len(out))
	}
	return out
}

func packageOf(path string) string { return filepath.Base(filepath.Dir(path)) }

func parse(t *testing.T, path string) (*token.FileSet, *ast.File, []byte) {
	t.Helper()
	src, err := os.ReadFile(path)
	if err != nil {
		t.Fatal(err)
	}
	set := token.NewFileSet()
	file, err := parser.ParseFile(set, path, src, parser.ParseComments)
	if err != nil {
		t.Fatal(err)
	}
	return set, file, src
}

func TestEachLayerIsThere(t *testing.T) {
	there := map[string]bool{}
	for _, path := range programFiles(t) {
		there[packageOf(path)] = true
	}
	for _, layer := range layers() {
		if !there[layer] {
			t.Errorf("package %s is missing", layer)
		}
	}
}

func TestImports(t *testing.T) {
	for _, path := range programFiles(t) {
		_, file, _ := parse(t, path)
		for _, im := range file.Imports {
			name, _ := strconv.Unquote(im.Path.Value)
			if own, ok := strings.CutPrefix(name, module); ok {
				checkBelow(t, path, own)
			} else if !strings.Contains(allowed, " "+name+" ") {
				t.Errorf("%s imports %s", path, name)
			}
		}
	}
}

// checkBelow refuses a layer that imports one that isn't below it, or what is there for tests alone.
func checkBelow(t *testing.T, path, imported string) {
	t.Helper()
	at, of := slices.Index(layers(), packageOf(path)), slices.Index(layers(), imported)
	if at >= 0 && of >= at {
		t.Errorf("%s imports %s, which isn't below it", path, imported)
	}
	if imported == testsOnly {
		t.Errorf("%s imports %s", path, imported)
	}
}

func TestLayout(t *testing.T) {
	for _, path := range programFiles(t) {
		set, file, src := parse(t, path)
		if laid, err := format.Source(src); err != nil || !bytes.Equal(laid, src) {
			t.Errorf("%s isn't in gofmt's layout", path)
		}
		for _, group := range file.Comments {
			for _, c := range group.List {
				if strings.HasPrefix(c.Text, "//go:") || strings.HasPrefix(c.Text, "// +build") {
					t.Errorf("%s: %s", set.Position(c.Pos()), c.Text)
				}
			}
		}
		for _, d := range file.Decls {
			f, ok := d.(*ast.FuncDecl)
			if ok && set.Position(f.End()).Line-set.Position(f.Pos()).Line >= maxLength {
				t.Errorf("%s: %s is too long", set.Position(f.Pos()), f.Name.Name)
			}
		}
	}
}
