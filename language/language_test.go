// Package language has no program, but a test of how the program is written: its layers keep to the language's bounds.
package language

import (
	"bytes"
	"go/ast"
	"go/format"
	"go/parser"
	"go/token"
	"os"
	"path/filepath"
	"strconv"
	"strings"
	"testing"
)

// layers: the folders that the program is made of.
const layers = "api ct limb mulf inv ladder dh sha mac hkdf derive shape node build path fault codec bundle setup update chain vault member state draw mail group script machine audit report"

// allowed: what may be used of the library.
const allowed = " bytes cmp container/heap errors iter maps math math/bits slices sort strconv strings sync sync/atomic unicode unicode/utf8 "

// barred: names of those packages that may not be used all the same.
const barred = " iter.Pull iter.Pull2 sync.Map sync.Pool sync.Cond sync.NewCond sync.OnceFunc sync.OnceValue sync.OnceValues "

// longest: lines of a function, somewhat above the 60 that it should have at most.
const longest = 66

// places: each layer's place in the map; a layer calls those below it alone.
func places() map[string]int {
	m := map[string]int{}
	for i, name := range strings.Fields(layers) {
		m[name] = i
	}
	return m
}

func TestLayers(t *testing.T) {
	for layer := range places() {
		files, err := os.ReadDir(filepath.Join("..", layer))
		if err != nil {
			t.Fatal(err)
		}
		for _, f := range files {
			name := filepath.Join("..", layer, f.Name())
			if f.IsDir() || !strings.HasSuffix(name, ".go") {
				t.Errorf("%s: no Go file", name)
			} else if !strings.HasSuffix(name, "_test.go") {
				checkFile(t, layer, name)
			}
		}
	}
}

// checkFile: what a text shows of the bounds.
func checkFile(t *testing.T, layer, name string) {
	text, err := os.ReadFile(name)
	if err != nil {
		t.Fatal(err)
	}
	if laid, err := format.Source(text); err != nil || !bytes.Equal(laid, text) {
		t.Errorf("%s: not in gofmt's layout", name)
	}
	fset := token.NewFileSet()
	file, err := parser.ParseFile(fset, name, text, parser.ParseComments)
	if err != nil {
		t.Fatal(err)
	}
	for _, i := range file.Imports {
		checkImport(t, layer, name, i)
	}
	for _, g := range file.Comments {
		for _, c := range g.List {
			if strings.HasPrefix(c.Text, "//go:") || strings.HasPrefix(strings.TrimSpace(strings.TrimPrefix(c.Text, "//")), "+build") {
				t.Errorf("%s: %s", name, c.Text)
			}
		}
	}
	for _, d := range file.Decls {
		if f, ok := d.(*ast.FuncDecl); ok {
			if n := fset.Position(f.End()).Line - fset.Position(f.Pos()).Line + 1; n > longest {
				t.Errorf("%s: %s has %d lines", name, f.Name.Name, n)
			}
		}
	}
	ast.Inspect(file, func(n ast.Node) bool {
		checkNames(t, name, n)
		return true
	})
}

// checkImport: of the library what is allowed, of the program what is below.
func checkImport(t *testing.T, layer, name string, i *ast.ImportSpec) {
	path, err := strconv.Unquote(i.Path.Value)
	if err != nil {
		t.Fatal(err)
	}
	below, own := strings.CutPrefix(path, "sapwood/")
	if !own && !strings.Contains(allowed, " "+path+" ") {
		t.Errorf("%s: imports %s", name, path)
	}
	p := places()
	if place, ok := p[below]; own && ok && place >= p[layer] {
		t.Errorf("%s: imports %s, which isn't below", name, path)
	}
	if i.Name != nil && i.Name.Name == "." {
		t.Errorf("%s: imports %s without its name", name, path)
	}
}

// checkNames: nothing is printed, and nothing barred is named.
func checkNames(t *testing.T, name string, n ast.Node) {
	switch x := n.(type) {
	case *ast.CallExpr:
		if f, ok := x.Fun.(*ast.Ident); ok && (f.Name == "print" || f.Name == "println") {
			t.Errorf("%s: prints", name)
		}
	case *ast.SelectorExpr:
		if p, ok := x.X.(*ast.Ident); ok && strings.Contains(barred, " "+p.Name+"."+x.Sel.Name+" ") {
			t.Errorf("%s: names %s.%s", name, p.Name, x.Sel.Name)
		}
	}
}
