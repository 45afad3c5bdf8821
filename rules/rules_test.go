// Package rules tests what the document and the rules of the language ask of the text of the program itself.
package rules

import (
	"go/ast"
	"go/parser"
	"go/token"
	"go/types"
	"path/filepath"
	"slices"
	"strconv"
	"strings"
	"testing"
)

// layers returns the packages of the layers, with the packages of the project that each may call.
func layers() map[string][]string {
	return map[string][]string{
		"line":       {"api"},
		"course":     {"api"},
		"deed":       {"api", "line", "course"},
		"limits":     {"api", "line", "course", "deed"},
		"area":       {"api", "line", "deed", "limits"},
		"plan":       {"api", "line"},
		"right":      {"api"},
		"court":      {"api", "line", "deed", "limits"},
		"book":       {"api"},
		"commission": {"api", "line", "course", "deed", "limits", "area", "plan", "right", "court", "book"},
	}
}

// library is the packages of the library that the program may use.
const library = " bytes cmp container/heap errors iter maps math math/bits slices sort strconv strings sync sync/atomic unicode unicode/utf8 "

// source returns the files of a package without its tests.
func source(t *testing.T, name string) []*ast.File {
	t.Helper()
	paths, err := filepath.Glob(filepath.Join("..", name, "*.go"))
	if err != nil {
		t.Fatal(err)
	}
	var files []*ast.File
	for _, path := range paths {
		if strings.HasSuffix(path, "_test.go") {
			continue
		}
		f, err := parser.ParseFile(token.NewFileSet(), path, nil, parser.ParseComments)
		if err != nil {
			t.Fatal(err)
		}
		files = append(files, f)
	}
	if len(files) == 0 {
		t.Fatalf("package %s has no files", name)
	}
	return files
}

// A layer calls the layers that its chapter names, and few packages of the library.
func TestImports(t *testing.T) {
	for name, lower := range layers() {
		for _, f := range source(t, name) {
			for _, i := range f.Imports {
				path, err := strconv.Unquote(i.Path.Value)
				if err != nil {
					t.Fatal(err)
				}
				own, is := strings.CutPrefix(path, "merestone/")
				if is && !slices.Contains(lower, own) && slices.Contains(append(names(), "api"), own) || !is && !strings.Contains(library, " "+path+" ") {
					t.Errorf("package %s imports %s", name, path)
				}
			}
		}
	}
}

// names returns the packages of the layers.
func names() []string {
	var l []string
	for name := range layers() {
		l = append(l, name)
	}
	return l
}

// No directive, and no variable of a package without a value that is written out.
func TestPackageLevel(t *testing.T) {
	for _, name := range names() {
		for _, f := range source(t, name) {
			for _, c := range f.Comments {
				for _, l := range c.List {
					if strings.HasPrefix(l.Text, "//go:") || strings.HasPrefix(l.Text, "// +build") {
						t.Errorf("package %s has the directive %s", name, l.Text)
					}
				}
			}
			for _, d := range f.Decls {
				if g, is := d.(*ast.GenDecl); is && g.Tok == token.VAR {
					for _, s := range g.Specs {
						if v := s.(*ast.ValueSpec); len(v.Values) != len(v.Names) {
							t.Errorf("package %s has the variable %s without a value", name, v.Names[0].Name)
						}
					}
				}
			}
		}
	}
}

// The section Ways of the chapters of the layers that are built.
func TestWays(t *testing.T) {
	for name, ways := range map[string][]string{
		"line":   {"array", "range-function", "closure", "label", "method-expression", "map", "generic-function"},
		"course": {"closure", "range-function", "fallthrough", "generic-function", "array", "panic", "recover", "defer"},
		"deed":   {"map", "panic", "recover", "defer", "range-function", "generic-function", "method-expression", "array"},
		"limits": {"method-value", "embedding", "range-function", "variadic", "struct-compared", "generic-function"},
		"area":   {"closure", "array", "range-function", "generic-function", "label", "method-value"},
		"plan":   {"array", "closure", "range-function", "label", "map", "embedding", "promoted", "variadic", "generic-function"},
		"right":  {"method-expression", "map", "panic", "type-switch", "defer", "recover", "clear", "generic-function", "struct-compared"},
		"court":  {"map", "method-expression", "panic", "recover", "defer", "embedding", "promoted", "range-function", "generic-function", "array", "closure"},
	} {
		got := found(source(t, name))
		for _, way := range ways {
			if !got[way] {
				t.Errorf("package %s does not use the way %s", name, way)
			}
		}
	}
}

// found returns the language features that some files use, as far as their text shows it.
func found(files []*ast.File) map[string]bool {
	got := map[string]bool{"promoted": promotes(files)}
	own, methods := declared(files)
	called := map[ast.Node]bool{}
	for _, f := range files {
		ast.Inspect(f, func(n ast.Node) bool {
			switch x := n.(type) {
			case *ast.ArrayType:
				got["array"] = got["array"] || x.Len != nil
			case *ast.MapType:
				got["map"] = true
			case *ast.FuncLit:
				got["closure"] = true
			case *ast.BranchStmt:
				got["label"] = got["label"] || x.Label != nil
				got["fallthrough"] = got["fallthrough"] || x.Tok == token.FALLTHROUGH
			case *ast.DeferStmt:
				got["defer"] = true
			case *ast.TypeSwitchStmt:
				got["type-switch"] = true
			case *ast.CallExpr:
				called[x.Fun] = true
				if id, is := x.Fun.(*ast.Ident); is {
					got[id.Name] = true // panic, recover and clear
				}
			case *ast.FuncDecl:
				got["generic-function"] = got["generic-function"] || x.Type.TypeParams != nil
				got["range-function"] = got["range-function"] || yields(x.Type)
			case *ast.Ellipsis:
				got["variadic"] = got["variadic"] || x.Elt != nil
			case *ast.StructType:
				got["embedding"] = got["embedding"] || slices.ContainsFunc(x.Fields.List, func(f *ast.Field) bool { return f.Names == nil })
			case *ast.BinaryExpr:
				got["struct-compared"] = got["struct-compared"] || (x.Op == token.EQL || x.Op == token.NEQ) && (isStruct(x.X) || isStruct(x.Y))
			case *ast.CaseClause:
				got["struct-compared"] = got["struct-compared"] || slices.ContainsFunc(x.List, isStruct)
			case *ast.SelectorExpr:
				if own[strings.Trim(types.ExprString(x.X), "(*)")] {
					got["method-expression"] = true
				} else if methods[x.Sel.Name] && !called[x] {
					got["method-value"] = true
				}
			}
			return true
		})
	}
	return got
}

// promotes says whether some method selects, of its receiver, a method of a type that the receiver's type embeds.
func promotes(files []*ast.File) bool {
	embedded, methods := map[string][]string{}, map[string][]string{}
	for _, f := range files {
		ast.Inspect(f, func(n ast.Node) bool {
			switch x := n.(type) {
			case *ast.TypeSpec:
				if s, is := x.Type.(*ast.StructType); is {
					for _, field := range s.Fields.List {
						if field.Names == nil {
							embedded[x.Name.Name] = append(embedded[x.Name.Name], types.ExprString(field.Type))
						}
					}
				}
			case *ast.FuncDecl:
				if x.Recv != nil {
					kind := strings.TrimPrefix(types.ExprString(x.Recv.List[0].Type), "*")
					methods[kind] = append(methods[kind], x.Name.Name)
				}
			}
			return true
		})
	}
	is := false
	for _, f := range files {
		for _, d := range f.Decls {
			x, method := d.(*ast.FuncDecl)
			if !method || x.Recv == nil || x.Recv.List[0].Names == nil {
				continue
			}
			ast.Inspect(x, func(n ast.Node) bool {
				s, selects := n.(*ast.SelectorExpr)
				if !selects || types.ExprString(s.X) != x.Recv.List[0].Names[0].Name {
					return true
				}
				for _, part := range embedded[strings.TrimPrefix(types.ExprString(x.Recv.List[0].Type), "*")] {
					is = is || slices.Contains(methods[strings.TrimPrefix(part, "*")], s.Sel.Name)
				}
				return true
			})
		}
	}
	return is
}

// isStruct says whether an expression is a struct that is written out.
func isStruct(x ast.Expr) bool {
	l, is := x.(*ast.CompositeLit)
	if !is {
		return false
	}
	switch l.Type.(type) {
	case *ast.Ident, *ast.SelectorExpr:
		return true
	}
	return false
}

// declared returns the names of the types, and of the methods, that some files declare.
func declared(files []*ast.File) (kinds, methods map[string]bool) {
	kinds, methods = map[string]bool{}, map[string]bool{}
	for _, f := range files {
		ast.Inspect(f, func(n ast.Node) bool {
			switch x := n.(type) {
			case *ast.TypeSpec:
				kinds[x.Name.Name] = true
			case *ast.FuncDecl:
				methods[x.Name.Name] = methods[x.Name.Name] || x.Recv != nil
			}
			return true
		})
	}
	return kinds, methods
}

// yields says whether a function returns one that can be ranged over, or is one.
func yields(f *ast.FuncType) bool {
	if strings.HasPrefix(types.ExprString(f), "func(yield func(") {
		return true
	}
	return f.Results != nil && slices.ContainsFunc(f.Results.List, func(r *ast.Field) bool {
		text := types.ExprString(r.Type)
		return strings.HasPrefix(text, "iter.Seq") || strings.HasPrefix(text, "func(yield func(")
	})
}
