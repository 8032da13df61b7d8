// Package ground tests what holds for the code of every layer: the language it keeps to, and which layers it calls.
package ground

import (
	"bytes"
	"go/ast"
	"go/format"
	"go/parser"
	"go/token"
	"io/fs"
	"os"
	"path/filepath"
	"slices"
	"strconv"
	"strings"
	"testing"
)

const (
	module  = "ferryman"
	longest = 60 // lines of a function
)

var library = []string{
	"bytes", "cmp", "container/heap", "errors", "iter", "maps", "math", "math/bits", "slices", "sort", "strconv", "strings", "sync", "sync/atomic", "unicode", "unicode/utf8",
}

// narrow holds the packages of which not everything may be used, and what may.
var narrow = map[string][]string{
	"iter": {"Seq", "Seq2"},
	"sync": {"Mutex", "RWMutex", "WaitGroup", "Once"},
}

// layers holds the packages in their order; calls, behind a layer's name, those that it may lean on. A layer that calls has no row for may lean on package api alone.
var layers = strings.Fields("sum addr field ipv4 ipv6 segment icmp embed portset mapping rules trie split splitsix join pathmtu tosix tofour flow napt plat edge relay world script play")

var calls = map[string]string{
	"ipv4":     "sum",
	"segment":  "sum",
	"icmp":     "sum",
	"embed":    "addr",
	"mapping":  "addr field portset",
	"rules":    "addr embed mapping",
	"trie":     "addr",
	"split":    "ipv4",
	"splitsix": "ipv6",
	"join":     "ipv4 ipv6",
	"tosix":    "sum ipv4 ipv6 segment icmp",
	"tofour":   "sum ipv4 ipv6 icmp",
	"napt":     "portset ipv4 segment icmp flow",
	"plat":     "flow",
	"edge":     allBelow("edge", "plat", "trie"),
	"relay":    allBelow("relay", "napt", "pathmtu", "trie"),
	"world":    "edge relay rules",
	"script":   "addr rules",
	"play":     "world script napt plat",
}

func allBelow(layer string, but ...string) string {
	below := slices.Clone(layers[:slices.Index(layers, layer)])
	below = slices.DeleteFunc(below, func(l string) bool { return slices.Contains(but, l) })
	return strings.Join(below, " ")
}

// source is one file of the program.
type source struct {
	name string // from the project's root on
	text []byte
	set  *token.FileSet
	tree *ast.File
}

// program is all Go files but the tests; sharedtests is where .ci/run lays tests that are not the project's.
func program(t *testing.T) []source {
	t.Helper()
	var all []source
	root := os.DirFS("..")
	err := fs.WalkDir(root, ".", func(name string, d fs.DirEntry, err error) error {
		if err != nil {
			return err
		}
		if d.IsDir() && (name == "sharedtests" || name != "." && strings.HasPrefix(d.Name(), ".")) {
			return fs.SkipDir
		}
		if d.IsDir() || !strings.HasSuffix(name, ".go") || strings.HasSuffix(name, "_test.go") {
			return nil
		}
		text, err := fs.ReadFile(root, name)
		if err != nil {
			return err
		}
		set := token.NewFileSet()
		tree, err := parser.ParseFile(set, name, text, parser.ParseComments)
		all = append(all, source{name, text, set, tree})
		return err
	})
	if err != nil {
		t.Fatal(err)
	}
	return all
}

func imports(s source) []string {
	var out []string
	for _, i := range s.tree.Imports {
		path, _ := strconv.Unquote(i.Path.Value)
		out = append(out, path)
	}
	return out
}

func TestEveryLayerIsThere(t *testing.T) {
	var dirs []string
	for _, s := range program(t) {
		dirs = append(dirs, filepath.Dir(s.name))
	}
	for _, l := range append([]string{"api"}, layers...) {
		if !slices.Contains(dirs, l) {
			t.Errorf("no package %s", l)
		}
	}
}

func TestImports(t *testing.T) {
	for _, s := range program(t) {
		for _, path := range imports(s) {
			if !strings.HasPrefix(path, module+"/") && !slices.Contains(library, path) {
				t.Errorf("%s imports %s", s.name, path)
			}
		}
		ast.Inspect(s.tree, func(n ast.Node) bool {
			x, ok := n.(*ast.SelectorExpr)
			if !ok {
				return true
			}
			if p, ok := x.X.(*ast.Ident); ok && narrow[p.Name] != nil && !slices.Contains(narrow[p.Name], x.Sel.Name) {
				t.Errorf("%s uses %s.%s", s.name, p.Name, x.Sel.Name)
			}
			return true
		})
	}
}

func TestLayersCallThoseOfTheirRow(t *testing.T) {
	for _, s := range program(t) {
		layer := filepath.Dir(s.name)
		for _, path := range imports(s) {
			other := strings.TrimPrefix(path, module+"/")
			if !slices.Contains(layers, layer) || other == path || !slices.Contains(layers, other) {
				continue
			}
			if !slices.Contains(strings.Fields(calls[layer]), other) {
				t.Errorf("%s: layer %s calls layer %s", s.name, layer, other)
			}
		}
	}
}

func TestLayout(t *testing.T) {
	for _, s := range program(t) {
		if neat, err := format.Source(s.text); err != nil || !bytes.Equal(neat, s.text) {
			t.Errorf("%s is not laid out as gofmt does: %v", s.name, err)
		}
		for _, d := range s.tree.Decls {
			f, ok := d.(*ast.FuncDecl)
			if !ok {
				continue
			}
			if n := s.set.Position(f.End()).Line - s.set.Position(f.Pos()).Line + 1; n > longest {
				t.Errorf("%s: func %s has %d lines", s.name, f.Name.Name, n)
			}
		}
		for _, g := range s.tree.Comments {
			for _, c := range g.List {
				if strings.HasPrefix(c.Text, "//go:") || strings.HasPrefix(c.Text, "// +build") {
					t.Errorf("%s: a line %s", s.name, c.Text)
				}
			}
		}
	}
}
