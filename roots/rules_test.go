package roots_test

import (
	"go/ast"
	"go/parser"
	"go/token"
	"io/fs"
	"path/filepath"
	"slices"
	"strconv"
	"strings"
	"testing"
)

// programFiles are the Go files of the program, by their packages, without tests and what .ci/run lays beside it.
func programFiles(t *testing.T) map[string][]*ast.File {
	packs := map[string][]*ast.File{}
	err := filepath.WalkDir("..", func(path string, e fs.DirEntry, err error) error {
		switch {
		case err != nil:
			return err
		case e.IsDir() && path != ".." && (e.Name() == "sharedtests" || strings.HasPrefix(e.Name(), ".")):
			return filepath.SkipDir
		case e.IsDir() || !strings.HasSuffix(path, ".go") || strings.HasSuffix(path, "_test.go"):
			return nil
		}
		f, err := parser.ParseFile(token.NewFileSet(), path, nil, 0)
		packs[filepath.Dir(path)] = append(packs[filepath.Dir(path)], f)
		return err
	})
	if err != nil || len(packs["../places"]) == 0 {
		t.Fatalf("the program's files: %v, %v", packs, err)
	}
	return packs
}

// tableOnly tells whether a value is written out: literals, and lists of them, but no call, no address, no struct without its values (in which something would be stored later).
func tableOnly(value ast.Expr) bool {
	switch x := value.(type) {
	case *ast.BasicLit:
		return true
	case *ast.CallExpr: // errors.New of one text
		f, ok := x.Fun.(*ast.SelectorExpr)
		return ok && f.Sel.Name == "New" && len(x.Args) == 1 && tableOnly(x.Args[0])
	case *ast.CompositeLit:
		return len(x.Elts) > 0 && !slices.ContainsFunc(x.Elts, func(e ast.Expr) bool { return !tableOnly(e) })
	}
	return false
}

// base is the name that an expression begins with.
func base(e ast.Expr) string {
	for {
		switch x := e.(type) {
		case *ast.Ident:
			return x.Name
		case *ast.IndexExpr:
			e = x.X
		case *ast.SelectorExpr:
			e = x.X
		case *ast.SliceExpr:
			e = x.X
		case *ast.ParenExpr:
			e = x.X
		default:
			return ""
		}
	}
}

// TestPackageLevel: no package keeps anything from call to call: its variables are tables that are written out where they stand, never assigned, their addresses never taken, without calls of their methods.
func TestPackageLevel(t *testing.T) {
	for dir, files := range programFiles(t) {
		var names []string
		for _, f := range files {
			for _, d := range f.Decls {
				if g, ok := d.(*ast.GenDecl); ok && g.Tok == token.VAR {
					for _, s := range g.Specs {
						v := s.(*ast.ValueSpec)
						if len(v.Values) != len(v.Names) || slices.ContainsFunc(v.Values, func(e ast.Expr) bool { return !tableOnly(e) }) {
							t.Errorf("%s: the value of %s is not written out", dir, v.Names[0])
						}
						for _, n := range v.Names {
							names = append(names, n.Name)
						}
					}
				}
				if f, ok := d.(*ast.FuncDecl); ok && f.Recv == nil && f.Name.Name == "init" {
					t.Errorf("%s: func init", dir)
				}
			}
		}
		for _, f := range files {
			checkRead(t, dir, f, names)
		}
	}
}

// checkRead looks whether variables are but read in a file.
func checkRead(t *testing.T, dir string, f *ast.File, names []string) {
	no := func(what string, e ast.Expr) {
		if n := base(e); slices.Contains(names, n) {
			t.Errorf("%s: %s is %s", dir, n, what)
		}
	}
	ast.Inspect(f, func(n ast.Node) bool {
		switch x := n.(type) {
		case *ast.AssignStmt:
			for _, l := range x.Lhs {
				no("assigned", l)
			}
		case *ast.IncDecStmt:
			no("assigned", x.X)
		case *ast.UnaryExpr:
			if x.Op == token.AND {
				no("pointed to", x.X)
			}
		case *ast.CallExpr:
			if s, ok := x.Fun.(*ast.SelectorExpr); ok {
				no("called by a method", s.X)
			}
		}
		return true
	})
}

// TestImports: the program takes no more of the library than the rules of its language have.
func TestImports(t *testing.T) {
	const allowed = " bytes cmp container/heap errors iter maps math math/big math/bits slices sort strconv strings sync sync/atomic unicode unicode/utf8 "
	for dir, files := range programFiles(t) {
		for _, f := range files {
			for _, i := range f.Imports {
				path, _ := strconv.Unquote(i.Path.Value)
				if !strings.HasPrefix(path, "roots/") && !strings.Contains(allowed, " "+path+" ") {
					t.Errorf("%s imports %s", dir, path)
				}
			}
		}
	}
}
