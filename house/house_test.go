// Package house holds the tests of what every package keeps to, whatever it does: R5, the map of the layers, and the language of the program.
package house

import (
	"bytes"
	"go/ast"
	"go/format"
	"go/parser"
	"go/token"
	"io/fs"
	"os"
	"path/filepath"
	"slices"
	"strconv"
	"strings"
	"testing"
)

// standsOn is the map of the layers: what each may call, beside api. (That tree stands on lex its chapter says, the map does not.)
var standsOn = map[string][]string{
	"api":     {},
	"fixnum":  {},
	"decimal": {"fixnum"},
	"wire":    {},
	"slots":   {},
	"levels":  {},
	"book":    {"slots", "levels"},
	"rules":   {},
	"plan":    {"fixnum", "book"},
	"engine":  {"book", "rules", "plan"},
	"snap":    {"fixnum"},
	"lex":     {},
	"tree":    {"lex"},
	"parse":   {"lex", "tree"},
	"print":   {"tree", "parse"},
	"types":   {"tree"},
	"cost":    {"tree", "types"},
	"mean":    {"fixnum", "snap", "parse", "types"},
	"lower":   {"parse", "types", "cost", "tree", "mean"},
	"table":   {"lex", "wire"},
	"machine": {"fixnum", "snap", "table"},
	"eval":    {"snap", "table", "machine"},
	"quota":   {},
	"venue":   {"engine", "snap", "lower", "eval", "quota"},
	"audit":   {},
	"store":   {"wire", "venue"},
	"lab":     {"decimal", "store"},
}

// library is what may be imported beside the project's own packages.
var library = []string{
	"bytes", "cmp", "container/heap", "errors", "iter", "maps", "math", "math/bits", "slices", "sort", "strconv", "strings", "sync", "sync/atomic", "unicode", "unicode/utf8",
}

const longestFunction = 60

// source is one Go file of a layer, without its tests.
type source struct {
	layer string
	name  string
	bytes []byte
	tree  *ast.File
	lines *token.FileSet
}

// sources are all of them, of all layers.
func sources(t *testing.T) []source {
	t.Helper()
	var all []source
	for layer := range standsOn {
		for _, name := range filesOf(t, layer) {
			if strings.HasSuffix(name, "_test.go") {
				continue
			}
			b, err := os.ReadFile(name)
			if err != nil {
				t.Fatal(err)
			}
			lines := token.NewFileSet()
			tree, err := parser.ParseFile(lines, name, b, parser.ParseComments)
			if err != nil {
				t.Fatal(err)
			}
			all = append(all, source{layer, name, b, tree, lines})
		}
	}
	if len(all) < len(standsOn) {
		t.Fatalf("only %d files were found", len(all))
	}
	return all
}

// filesOf are the paths of all files of a layer's folder.
func filesOf(t *testing.T, layer string) []string {
	t.Helper()
	var names []string
	err := filepath.WalkDir(filepath.Join("..", layer), func(name string, entry fs.DirEntry, err error) error {
		if err == nil && !entry.IsDir() {
			names = append(names, name)
		}
		return err
	})
	if err != nil {
		t.Fatal(err)
	}
	return names
}

func TestALayerHasGoFilesAlone(t *testing.T) {
	for layer := range standsOn {
		for _, name := range filesOf(t, layer) {
			if filepath.Ext(name) != ".go" && !strings.Contains(name, "testdata") {
				t.Errorf("%s is no Go file", name)
			}
		}
	}
}

// What prints, sleeps, asks a clock or draws at random is not at hand where it can't be imported (R5).
func TestImports(t *testing.T) {
	for _, s := range sources(t) {
		for _, i := range s.tree.Imports {
			path, err := strconv.Unquote(i.Path.Value)
			if err != nil {
				t.Fatal(err)
			}
			below, own := strings.CutPrefix(path, "tripwire/")
			switch {
			case own && below != "api" && !slices.Contains(standsOn[s.layer], below):
				t.Errorf("%s: layer %s does not stand on %s", s.name, s.layer, below)
			case !own && !slices.Contains(library, path):
				t.Errorf("%s: %s is imported", s.name, path)
			}
		}
	}
}

func TestNothingIsPrintedByTheLanguageItself(t *testing.T) {
	for _, s := range sources(t) {
		ast.Inspect(s.tree, func(n ast.Node) bool {
			if call, ok := n.(*ast.CallExpr); ok {
				if name, ok := call.Fun.(*ast.Ident); ok && (name.Name == "print" || name.Name == "println") {
					t.Errorf("%s: %s is called", s.lines.Position(n.Pos()), name.Name)
				}
			}
			return true
		})
	}
}

func TestVariablesOfAPackageAreWrittenOut(t *testing.T) {
	for _, s := range sources(t) {
		for _, d := range s.tree.Decls {
			g, ok := d.(*ast.GenDecl)
			if !ok || g.Tok != token.VAR {
				continue
			}
			for _, spec := range g.Specs {
				v := spec.(*ast.ValueSpec)
				if len(v.Values) != len(v.Names) {
					t.Errorf("%s: a variable without a value of its own", s.lines.Position(v.Pos()))
				}
				for _, value := range v.Values {
					if !isWrittenOut(value) {
						t.Errorf("%s: its value is not written out", s.lines.Position(v.Pos()))
					}
				}
			}
		}
	}
}

// isWrittenOut says if a starting value is made by no call (but errors.New), and has no map, function, float or address.
func isWrittenOut(value ast.Expr) bool {
	is := true
	ast.Inspect(value, func(n ast.Node) bool {
		switch n := n.(type) {
		case *ast.CallExpr:
			is = is && isErrorsNew(n)
		case *ast.MapType, *ast.FuncLit, *ast.FuncType:
			is = false
		case *ast.UnaryExpr:
			is = is && n.Op != token.AND
		case *ast.BasicLit:
			is = is && n.Kind != token.FLOAT && n.Kind != token.IMAG
		}
		return is
	})
	return is
}

func isErrorsNew(call *ast.CallExpr) bool {
	name, ok := call.Fun.(*ast.SelectorExpr)
	if !ok {
		return false
	}
	from, ok := name.X.(*ast.Ident)
	return ok && from.Name == "errors" && name.Sel.Name == "New"
}

func TestFunctionsAreShort(t *testing.T) {
	for _, s := range sources(t) {
		for _, d := range s.tree.Decls {
			f, ok := d.(*ast.FuncDecl)
			if !ok {
				continue
			}
			if f.Recv == nil && f.Name.Name == "init" {
				t.Errorf("%s: something is laid by init", s.lines.Position(f.Pos()))
			}
			if lines := s.lines.Position(f.End()).Line - s.lines.Position(f.Pos()).Line + 1; lines > longestFunction {
				t.Errorf("%s: %s has %d lines", s.lines.Position(f.Pos()), f.Name.Name, lines)
			}
		}
	}
}

func TestNoLineSpeaksToTheTools(t *testing.T) {
	for _, s := range sources(t) {
		for _, group := range s.tree.Comments {
			for _, c := range group.List {
				if strings.HasPrefix(c.Text, "//go:") || strings.HasPrefix(c.Text, "// +build") {
					t.Errorf("%s: %s", s.lines.Position(c.Pos()), c.Text)
				}
			}
		}
	}
}

func TestLayout(t *testing.T) {
	for _, s := range sources(t) {
		laid, err := format.Source(s.bytes)
		if err != nil {
			t.Fatal(err)
		}
		if !bytes.Equal(laid, s.bytes) {
			t.Errorf("%s is not laid out as gofmt does", s.name)
		}
	}
}
