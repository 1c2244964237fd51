package fixnum_test

import (
	"go/ast"
	"go/parser"
	"go/token"
	"path/filepath"
	"slices"
	"strings"
	"sync"
	"testing"

	"tripwire/fixnum"
)

// sourceFiles are the package's own, without its tests.
func sourceFiles(t *testing.T) []*ast.File {
	t.Helper()
	names, err := filepath.Glob("*.go")
	if err != nil {
		t.Fatal(err)
	}
	var files []*ast.File
	for _, name := range names {
		if strings.HasSuffix(name, "_test.go") {
			continue
		}
		file, err := parser.ParseFile(token.NewFileSet(), name, nil, 0)
		if err != nil {
			t.Fatal(err)
		}
		files = append(files, file)
	}
	if len(files) == 0 {
		t.Fatal("no source file found")
	}
	return files
}

// No clock, no random source, no printing, and nothing kept: so it can only be if what would do these is not at hand at all.
func TestNothingToPrintOrAskTheClockWith(t *testing.T) {
	allowed := []string{`"math"`, `"math/bits"`}
	for _, file := range sourceFiles(t) {
		for _, i := range file.Imports {
			if !slices.Contains(allowed, i.Path.Value) {
				t.Errorf("%s is imported", i.Path.Value)
			}
		}
		for _, d := range file.Decls {
			if g, ok := d.(*ast.GenDecl); ok && g.Tok == token.VAR {
				t.Error("a variable of the package could keep something from call to call")
			}
		}
		ast.Inspect(file, func(n ast.Node) bool {
			if call, ok := n.(*ast.CallExpr); ok {
				if name, ok := call.Fun.(*ast.Ident); ok && (name.Name == "print" || name.Name == "println") {
					t.Errorf("%s is called", name.Name)
				}
			}
			return true
		})
	}
}

// What else is asked, at the same time or earlier, is not to be seen in an answer.
func TestAnswersHangOnArgumentsAlone(t *testing.T) {
	var workers sync.WaitGroup
	for first := range 4 {
		workers.Go(func() {
			d := draw(first)
			for range 2000 {
				fixnum.MulDiv(d.next(), d.next(), d.next())
				fixnum.Sum(d.next(), d.next())
				if n, is := fixnum.MulDiv(most, 10, 20); n != most/2 || !is {
					t.Errorf("MulDiv among other calls is %d, %t", n, is)
				}
				if n, is := fixnum.Sum(most, 1, -1); n != most || !is {
					t.Errorf("Sum among other calls is %d, %t", n, is)
				}
			}
		})
	}
	workers.Wait()
}
