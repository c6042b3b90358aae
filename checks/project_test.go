// Package checks holds tests of the project's own text: that it keeps to the language's rules, and leans on the ways that the document names.
package checks

import (
	"go/ast"
	"go/parser"
	"go/token"
	"os"
	"path/filepath"
	"strings"
	"testing"
)

const root = ".."

// layers are the packages that are built, in their order, with the ways that each leans on.
var layers = []struct{ name, ways string }{
	{"sha", "variadic constant-table"},
	{"hmac", "array variadic"},
	{"wire", "label closure"},
	{"merkle", "range-integer array-compared"},
	{"tree", "range-string rune copy"},
	{"program", "constant-table range-string"},
	{"vm", "panic recover defer"},
	{"action", "copy"},
	{"attest", "array-compared three-index"},
	{"disk", "array copy"},
	{"journal", "closure range-function"},
	{"store", "map delete iota"},
	{"lexer", "range-string rune"},
	{"parser", "constant-table"},
	{"graph", "map label"},
	{"plan", "label"},
	{"clean", "map"},
	{"member", "array"},
	{"probe", "map delete"},
	{"adverts", "closure range-function label"},
	{"gossip", "range-function closure"},
	{"claims", "map delete"},
	{"assign", "map label array"},
	{"fetch", "map closure"},
	{"frames", "method-value generic-function variadic"},
	{"builder", "iota"},
	{"node", "method-expression"},
	{"swarm", "method-expression array"},
	{"play", "range-integer"},
}

var library = " bytes cmp container/heap errors iter maps math math/bits slices sort strconv strings sync sync/atomic unicode unicode/utf8 "

func TestWaysOfLayers(t *testing.T) {
	for _, l := range layers {
		missing, err := WaysMissing(root, "murmuration", []string{l.name}, strings.Fields(l.ways))
		if err != nil {
			t.Fatal(err)
		}
		for _, m := range missing {
			t.Errorf("%s: way missing: %s", l.name, m)
		}
	}
}

// programFiles are the Go files of the program, without tests.
func programFiles(t *testing.T) []string {
	all, err := filepath.Glob(filepath.Join(root, "*", "*.go"))
	if err != nil {
		t.Fatal(err)
	}
	var files []string
	for _, f := range all {
		if !strings.HasSuffix(f, "_test.go") && !strings.HasPrefix(f, filepath.Join(root, "api")) {
			files = append(files, f)
		}
	}
	return files
}

func TestLanguage(t *testing.T) {
	for _, name := range programFiles(t) {
		set := token.NewFileSet()
		file, err := parser.ParseFile(set, name, nil, parser.ParseComments)
		if err != nil {
			t.Fatal(err)
		}
		checkImports(t, name, file)
		checkVariables(t, name, file)
		for _, d := range file.Decls {
			if f, ok := d.(*ast.FuncDecl); ok {
				if n := set.Position(f.End()).Line - set.Position(f.Pos()).Line; n > 60 {
					t.Errorf("%s: %s has %d lines", name, f.Name.Name, n)
				}
			}
		}
		ast.Inspect(file, func(n ast.Node) bool {
			if m, ok := n.(*ast.MapType); ok {
				if v, ok := m.Value.(*ast.Ident); ok && (v.Name == "bool" || v.Name == "string") {
					t.Errorf("%s: a map of %ss", set.Position(n.Pos()), v.Name)
				}
			}
			return true
		})
		for _, c := range file.Comments {
			if strings.HasPrefix(c.List[0].Text, "//go:") {
				t.Errorf("%s: %s", name, c.List[0].Text)
			}
		}
	}
}

func checkImports(t *testing.T, name string, file *ast.File) {
	for _, i := range file.Imports {
		path := strings.Trim(i.Path.Value, `"`)
		if !strings.HasPrefix(path, "murmuration/") && !strings.Contains(library, " "+path+" ") {
			t.Errorf("%s imports %s", name, path)
		}
	}
}

// checkVariables: at package level stand tables that are written out, and no other variables.
func checkVariables(t *testing.T, name string, file *ast.File) {
	for _, d := range file.Decls {
		g, ok := d.(*ast.GenDecl)
		if !ok || g.Tok != token.VAR {
			continue
		}
		for _, s := range g.Specs {
			v := s.(*ast.ValueSpec)
			if len(v.Values) != len(v.Names) {
				t.Errorf("%s: %s has no value", name, v.Names[0].Name)
				continue
			}
			for i, x := range v.Values {
				if _, ok := x.(*ast.CompositeLit); !ok {
					t.Errorf("%s: %s is no table", name, v.Names[i].Name)
				}
			}
		}
	}
}

// The given package must be as it is handed out, where that is to be had.
func TestGiven(t *testing.T) {
	given, err := filepath.Glob(filepath.Join(root, "..", "shared", "given", "api", "*.go"))
	if err != nil || len(given) == 0 {
		t.Skip("no given package beside the project")
	}
	for _, f := range given {
		want, err := os.ReadFile(f)
		if err != nil {
			t.Fatal(err)
		}
		got, err := os.ReadFile(filepath.Join(root, "api", filepath.Base(f)))
		if err != nil || string(got) != string(want) {
			t.Errorf("api/%s is not as it was given", filepath.Base(f))
		}
	}
}
