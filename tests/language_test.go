package tests

import (
	"bytes"
	"go/ast"
	"go/format"
	"go/importer"
	"go/parser"
	"go/token"
	"go/types"
	"maps"
	"os"
	"path/filepath"
	"slices"
	"strings"
	"testing"
)

const mostLines = 60

var allowedImports = []string{
	"bytes", "cmp", "container/heap", "errors", "iter", "maps", "math", "math/big", "math/bits", "slices", "sort",
	"strconv", "strings", "sync", "sync/atomic", "unicode", "unicode/utf8",
}

func TestProgramKeepsToItsLanguage(t *testing.T) {
	files, err := os.ReadDir("../impl")
	if err != nil || len(files) == 0 {
		t.Fatal("no files of the program", err)
	}
	for _, file := range files {
		name := filepath.Join("../impl", file.Name())
		if file.IsDir() || filepath.Ext(name) != ".go" {
			t.Error(name, "is no Go file")
			continue
		}
		source, err := os.ReadFile(name)
		if err != nil {
			t.Fatal(err)
		}
		checkSource(t, name, source)
	}
}

func checkSource(t *testing.T, name string, source []byte) {
	layout, err := format.Source(source)
	if err != nil {
		t.Fatal(err)
	}
	if !bytes.Equal(layout, source) {
		t.Error(name, "has not gofmt's layout")
	}
	fset := token.NewFileSet()
	file, err := parser.ParseFile(fset, name, source, parser.ParseComments)
	if err != nil {
		t.Fatal(err)
	}
	for _, i := range file.Imports {
		if path := strings.Trim(i.Path.Value, `"`); !slices.Contains(allowedImports, path) {
			t.Error(name, "imports", path)
		}
	}
	for _, group := range file.Comments {
		for _, c := range group.List {
			if strings.HasPrefix(c.Text, "//go:") || strings.HasPrefix(c.Text, "// +build") {
				t.Error(name, "has the line", c.Text)
			}
		}
	}
	for _, d := range file.Decls {
		if v, ok := d.(*ast.GenDecl); ok && v.Tok == token.VAR {
			checkVariables(t, name, v)
		}
		f, ok := d.(*ast.FuncDecl)
		if ok && fset.Position(f.End()).Line-fset.Position(f.Pos()).Line >= mostLines {
			t.Error(name, "has a function that is too long:", f.Name.Name)
		}
		if ok && f.Name.Name != "init" {
			checkFillsNothing(t, name, f)
		}
	}
}

// filledAtStart are the variables that the document's chapter 24 asks for.
var filledAtStart = []string{"codeWords", "machines"}

// A variable of the package is a table that is written out, or an error.
func checkVariables(t *testing.T, name string, variables *ast.GenDecl) {
	for _, s := range variables.Specs {
		spec := s.(*ast.ValueSpec)
		if slices.Contains(filledAtStart, spec.Names[0].Name) {
			continue
		}
		if len(spec.Values) != len(spec.Names) {
			t.Error(name, "has a variable without a value:", spec.Names[0].Name)
		}
		ast.Inspect(spec, func(n ast.Node) bool {
			switch x := n.(type) {
			case *ast.CallExpr:
				made, ok := x.Fun.(*ast.SelectorExpr)
				if !ok || made.Sel.Name != "New" {
					t.Error(name, "has a variable made by a call:", spec.Names[0].Name)
				}
			case *ast.MapType, *ast.FuncType, *ast.ChanType, *ast.StarExpr, *ast.UnaryExpr:
				if u, ok := x.(*ast.UnaryExpr); !ok || u.Op == token.AND {
					t.Error(name, "has a variable of a kind that no table has:", spec.Names[0].Name)
				}
			}
			return true
		})
	}
}

// What is filled at start-up stays as it is: nothing is kept from call to call.
func checkFillsNothing(t *testing.T, name string, f *ast.FuncDecl) {
	check := func(x ast.Expr) {
		if at, ok := x.(*ast.IndexExpr); ok {
			x = at.X
		}
		if id, ok := x.(*ast.Ident); ok && slices.Contains(filledAtStart, id.Name) {
			t.Error(name, "fills", id.Name, "behind the start-up, in", f.Name.Name)
		}
	}
	ast.Inspect(f, func(n ast.Node) bool {
		switch x := n.(type) {
		case *ast.AssignStmt:
			for _, left := range x.Lhs {
				check(left)
			}
		case *ast.IncDecStmt:
			check(x.X)
		case *ast.UnaryExpr:
			if x.Op == token.AND {
				check(x.X)
			}
		case *ast.CallExpr:
			if called, ok := x.Fun.(*ast.Ident); ok && (called.Name == "delete" || called.Name == "clear") {
				check(x.Args[0])
			}
		}
		return true
	})
}

// A machine that has put itself among the machines is told by posterOf, too, and
// the other way round; Post asks both. No answer could tell that one is missing.
func TestMachinesAreThoseThatAreTold(t *testing.T) {
	file, err := parser.ParseFile(token.NewFileSet(), "../impl/l13_posts.go", nil, 0)
	if err != nil {
		t.Fatal(err)
	}
	registered, told, asked := map[string]string{}, map[string]string{}, map[string]int{}
	for _, d := range file.Decls {
		f, ok := d.(*ast.FuncDecl)
		if !ok {
			continue
		}
		ast.Inspect(f, func(n ast.Node) bool {
			switch x := n.(type) {
			case *ast.AssignStmt:
				if at, ok := x.Lhs[0].(*ast.IndexExpr); ok && f.Name.Name == "init" && types.ExprString(at.X) == "machines" {
					registered[types.ExprString(at.Index)] = types.ExprString(x.Rhs[0])
				}
			case *ast.CaseClause:
				if f.Name.Name == "posterOf" && len(x.List) == 1 {
					told[types.ExprString(x.List[0])] = types.ExprString(x.Body[0].(*ast.ReturnStmt).Results[0])
				}
			case *ast.Ident:
				if f.Name.Name == "Post" {
					asked[x.Name]++
				}
			}
			return true
		})
	}
	if len(registered) != 2 || !maps.Equal(registered, told) {
		t.Error("registered are", registered, "told are", told)
	}
	if asked["machines"] == 0 || asked["posterOf"] == 0 {
		t.Error("Post asks for", asked)
	}
}

func TestProjectHasNoOtherFolders(t *testing.T) {
	entries, err := os.ReadDir("..")
	if err != nil {
		t.Fatal(err)
	}
	for _, e := range entries {
		if e.IsDir() && !slices.Contains([]string{"impl", "tests", ".ci", ".git", "sharedtests"}, e.Name()) { // sharedtests: in the throw-away copy alone
			t.Error("the project has the folder", e.Name())
		}
	}
}

// A machine may make a product and a sum in one, unless the product is converted;
// which machine the tests run on, no answer tells. The language's own products and
// quotients of complex numbers are not made part by part as the document asks.
func TestProductsAreRoundedOnTheirOwn(t *testing.T) {
	fset, files, info := checkedFiles(t, "../impl/*.go")
	products := 0
	for _, file := range files {
		converted := map[ast.Expr]bool{}
		ast.Inspect(file, func(n ast.Node) bool {
			switch x := n.(type) {
			case *ast.CallExpr:
				if info.Types[x.Fun].IsType() {
					converted[ast.Unparen(x.Args[0])] = true
				}
			case *ast.BinaryExpr:
				if x.Op == token.MUL && ofKind(info, x, types.IsFloat) {
					products++
					if !converted[x] {
						t.Error(fset.Position(x.Pos()), "has a product that is not rounded on its own:", types.ExprString(x))
					}
				}
				if (x.Op == token.MUL || x.Op == token.QUO) && ofKind(info, x, types.IsComplex) {
					t.Error(fset.Position(x.Pos()), "leaves parts to the language:", types.ExprString(x))
				}
			case *ast.AssignStmt:
				if (x.Tok == token.MUL_ASSIGN || x.Tok == token.QUO_ASSIGN) && ofKind(info, x.Lhs[0], types.IsFloat|types.IsComplex) {
					t.Error(fset.Position(x.Pos()), "has a product that is not rounded on its own")
				}
			}
			return true
		})
	}
	if products == 0 {
		t.Error("the program has no product of floats")
	}
}

func ofKind(info *types.Info, x ast.Expr, kind types.BasicInfo) bool {
	of, ok := info.Types[x].Type.Underlying().(*types.Basic)
	return ok && of.Info()&kind != 0 && info.Types[x].Value == nil
}

func checkedFiles(t *testing.T, pattern string) (*token.FileSet, []*ast.File, *types.Info) {
	t.Helper()
	fset := token.NewFileSet()
	names, err := filepath.Glob(pattern)
	if err != nil || len(names) == 0 {
		t.Fatal("no files", pattern, err)
	}
	var files []*ast.File
	for _, name := range names {
		file, err := parser.ParseFile(fset, name, nil, 0)
		if err != nil {
			t.Fatal(err)
		}
		files = append(files, file)
	}
	info := &types.Info{Types: map[ast.Expr]types.TypeAndValue{}, Uses: map[*ast.Ident]types.Object{}}
	config := types.Config{Importer: importer.ForCompiler(fset, "source", nil)}
	if _, err := config.Check(files[0].Name.Name, fset, files, info); err != nil {
		t.Fatal(err)
	}
	return fset, files, info
}

// What is drawn while a map is gone through hangs on its order, which is another
// one in each run; so does what is drawn from a source that no test has made.
func TestWhatIsDrawnIsTheSameInEachRun(t *testing.T) {
	fset, files, info := checkedFiles(t, "*_test.go")
	drawing := 0
	for _, file := range files {
		ast.Inspect(file, func(n ast.Node) bool {
			if loop, ok := n.(*ast.RangeStmt); ok && overMap(info, loop.X) && drawsIn(info, loop.Body) > 0 {
				t.Error(fset.Position(loop.Pos()), "draws in the order of a map")
			}
			if id, ok := n.(*ast.Ident); ok && drawsUnseeded(info.Uses[id]) {
				t.Error(fset.Position(id.Pos()), "draws from a source of its own")
			}
			return true
		})
		drawing += drawsIn(info, file)
	}
	if drawing == 0 {
		t.Error("no test draws")
	}
}

// overMap: the map itself, or its keys or values as they come.
func overMap(info *types.Info, x ast.Expr) bool {
	if call, ok := x.(*ast.CallExpr); ok {
		if of, ok := call.Fun.(*ast.SelectorExpr); ok {
			f, ok := info.Uses[of.Sel].(*types.Func)
			return ok && f.Pkg() != nil && f.Pkg().Path() == "maps"
		}
	}
	_, ok := info.Types[x].Type.Underlying().(*types.Map)
	return ok
}

func drawsIn(info *types.Info, n ast.Node) int {
	draws := 0
	ast.Inspect(n, func(n ast.Node) bool {
		if x, ok := n.(ast.Expr); ok && info.Types[x].Type != nil && info.Types[x].Type.String() == "*math/rand.Rand" {
			draws++
		}
		return true
	})
	return draws
}

func drawsUnseeded(used types.Object) bool {
	f, ok := used.(*types.Func)
	if !ok || f.Pkg() == nil || !strings.HasPrefix(f.Pkg().Path(), "math/rand") || f.Signature().Recv() != nil {
		return false
	}
	return f.Name() != "New" && f.Name() != "NewSource"
}

// Each function that the document lists is called by one of the lists of calls,
// and the answers of all these are asked for again.
func TestEveryFunctionIsAskedAgain(t *testing.T) {
	_, program, _ := checkedFiles(t, "../impl/*.go")
	_, tests, _ := checkedFiles(t, "*_test.go")
	named := namedByFunctions(tests)
	lists := 0
	for name := range named {
		if strings.HasSuffix(name, "Calls") {
			lists++
			if !slices.Contains(named["TestAnswersHangOnNothingElse"], name) {
				t.Error("nothing asks again for", name)
			}
		}
	}
	called := reachedBy(named, "TestAnswersHangOnNothingElse")
	functions := 0
	eachFunction(program, func(f *ast.FuncDecl) {
		if f.Recv == nil && f.Name.IsExported() {
			functions++
			if called["impl."+f.Name.Name] == 0 {
				t.Error("no list of calls has", f.Name.Name)
			}
		}
	})
	if functions != 86 || lists != 22 {
		t.Error("there are", functions, "functions and", lists, "lists of calls")
	}
}

// namedByFunctions: what each function names, the program's with impl ahead.
func namedByFunctions(files []*ast.File) map[string][]string {
	named := map[string][]string{}
	eachFunction(files, func(f *ast.FuncDecl) {
		ast.Inspect(f.Body, func(n ast.Node) bool {
			switch x := n.(type) {
			case *ast.SelectorExpr:
				named[f.Name.Name] = append(named[f.Name.Name], types.ExprString(x))
			case *ast.Ident:
				named[f.Name.Name] = append(named[f.Name.Name], x.Name)
			}
			return true
		})
	})
	return named
}

func reachedBy(named map[string][]string, start string) map[string]int {
	reached := map[string]int{start: 1}
	for left := []string{start}; len(left) > 0; left = left[1:] {
		for _, name := range named[left[0]] {
			if reached[name] == 0 {
				left = append(left, name)
			}
			reached[name]++
		}
	}
	return reached
}

func eachFunction(files []*ast.File, what func(*ast.FuncDecl)) {
	for _, file := range files {
		for _, d := range file.Decls {
			if f, ok := d.(*ast.FuncDecl); ok {
				what(f)
			}
		}
	}
}
