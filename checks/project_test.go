// Package checks holds tests of the project's own text: that it imports what it may, and leans on the ways that the document names.
package checks

import (
	"go/parser"
	"go/token"
	"os"
	"path/filepath"
	"slices"
	"strings"
	"testing"
)

const root = ".."

// layers are the packages that are built, in their order, with the ways that each leans on.
var layers = []struct{ name, ways string }{
	{"sha", "variadic constant-table"},
	{"hmac", "array variadic"},
	{"wire", "label closure"},
	{"merkle", "range-integer array-compared"},
	{"tree", "range-string rune copy"},
	{"program", "constant-table range-string"},
	{"vm", "panic recover defer"},
	{"action", "copy"},
	{"attest", "array-compared three-index"},
	{"disk", "array copy"},
	{"journal", "closure range-function"},
	{"store", "map delete iota"},
	{"lexer", "range-string rune"},
	{"parser", "constant-table"},
	{"graph", "map label"},
	{"plan", "label"},
	{"clean", "map"},
	{"member", "array"},
	{"probe", "map delete"},
	{"adverts", "closure range-function label"},
	{"gossip", "range-function closure"},
	{"claims", "map delete"},
	{"assign", "map label array"},
	{"fetch", "map closure"},
	{"frames", "method-value generic-function variadic"},
	{"builder", "iota"},
	{"node", "method-expression"},
	{"swarm", "method-expression array"},
	{"play", "range-integer"},
}

var library = " bytes cmp container/heap errors iter maps math math/bits slices sort strconv strings sync sync/atomic unicode unicode/utf8 "

func TestWaysOfLayers(t *testing.T) {
	for _, l := range layers {
		t.Run(l.name, func(t *testing.T) {
			t.Parallel()
			missing, err := WaysMissing(root, "murmuration", []string{l.name}, strings.Fields(l.ways))
			if err != nil {
				t.Fatal(err)
			}
			for _, m := range missing {
				t.Errorf("way missing: %s", m)
			}
		})
	}
}

// helpers are packages beside the layers.
var helpers = []string{"ticks", "words"}

// programFiles are the Go files of the program, without tests.
func programFiles(t *testing.T) []string {
	packages := slices.Clone(helpers)
	for _, l := range layers {
		packages = append(packages, l.name)
	}
	var files []string
	for _, p := range packages {
		all, err := filepath.Glob(filepath.Join(root, p, "*.go"))
		if err != nil {
			t.Fatal(err)
		}
		for _, f := range all {
			if !strings.HasSuffix(f, "_test.go") {
				files = append(files, f)
			}
		}
	}
	return files
}

func TestImports(t *testing.T) {
	for _, name := range programFiles(t) {
		file, err := parser.ParseFile(token.NewFileSet(), name, nil, parser.ImportsOnly)
		if err != nil {
			t.Fatal(err)
		}
		for _, i := range file.Imports {
			path := strings.Trim(i.Path.Value, `"`)
			if !strings.HasPrefix(path, "murmuration/") && !strings.Contains(library, " "+path+" ") {
				t.Errorf("%s imports %s", name, path)
			}
		}
	}
}

// The given package must be as it is handed out, where that is to be had.
func TestGiven(t *testing.T) {
	given, err := filepath.Glob(filepath.Join(root, "..", "shared", "given", "api", "*.go"))
	if err != nil || len(given) == 0 {
		t.Skip("no given package beside the project")
	}
	for _, f := range given {
		want, err := os.ReadFile(f)
		if err != nil {
			t.Fatal(err)
		}
		got, err := os.ReadFile(filepath.Join(root, "api", filepath.Base(f)))
		if err != nil || string(got) != string(want) {
			t.Errorf("api/%s is not as it was given", filepath.Base(f))
		}
	}
}
