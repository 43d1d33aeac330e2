// Package language has tests alone: that the program's code keeps to shared/LANGUAGE.md, as far as its text shows it.
package language

import (
	"bytes"
	"go/ast"
	"go/format"
	"go/parser"
	"go/token"
	"go/types"
	"io/fs"
	"os"
	"path/filepath"
	"slices"
	"strconv"
	"strings"
	"testing"
)

// longest is how many lines a function may have.
const longest = 60

var allowed = []string{
	"bytes", "cmp", "container/heap", "errors", "iter", "maps", "math", "math/bits", "slices", "sort",
	"strconv", "strings", "sync", "sync/atomic", "unicode", "unicode/utf8",
}

// source is a Go file of the program.
type source struct {
	path string
	text []byte
	set  *token.FileSet
	file *ast.File
}

// files tells all files in the module's package folders, but those of shared tests.
func files(t *testing.T) []string {
	t.Helper()
	var out []string
	err := filepath.WalkDir("..", func(path string, d fs.DirEntry, err error) error {
		if err != nil {
			return err
		}
		if d.IsDir() && path != ".." && (strings.HasPrefix(d.Name(), ".") || d.Name() == "sharedtests") {
			return filepath.SkipDir
		}
		if !d.IsDir() && filepath.Dir(path) != ".." {
			out = append(out, path)
		}
		return nil
	})
	if err != nil || len(out) == 0 {
		t.Fatal("no files: ", err)
	}
	return out
}

// sources tells the Go files that are no tests.
func sources(t *testing.T) []source {
	t.Helper()
	var out []source
	for _, path := range files(t) {
		if !strings.HasSuffix(path, ".go") || strings.HasSuffix(path, "_test.go") {
			continue
		}
		text, err := os.ReadFile(path)
		if err != nil {
			t.Fatal(err)
		}
		out = append(out, parse(t, path, text))
	}
	return out
}

func parse(t *testing.T, path string, text []byte) source {
	t.Helper()
	set := token.NewFileSet()
	f, err := parser.ParseFile(set, path, text, parser.ParseComments)
	if err != nil {
		t.Fatal(err)
	}
	return source{path, text, set, f}
}

// faults tells all that a file does against the language.
func faults(s source) []string {
	return slices.Concat(imports(s), remarks(s), layout(s), lengths(s), calls(s), variables(s))
}

func imports(s source) []string {
	var out []string
	for _, i := range s.file.Imports {
		p, _ := strconv.Unquote(i.Path.Value)
		if !slices.Contains(allowed, p) && !strings.HasPrefix(p, "quire/") {
			out = append(out, "import of "+p)
		}
		if i.Name != nil && (i.Name.Name == "." || i.Name.Name == "_") {
			out = append(out, "import without a name of "+p)
		}
	}
	return out
}

func remarks(s source) []string {
	var out []string
	for _, g := range s.file.Comments {
		for _, c := range g.List {
			if strings.HasPrefix(c.Text, "//go:") || strings.HasPrefix(c.Text, "// +build") {
				out = append(out, "line "+c.Text)
			}
		}
	}
	return out
}

func layout(s source) []string {
	b, err := format.Source(s.text)
	if err != nil || !bytes.Equal(b, s.text) {
		return []string{"not gofmt's layout"}
	}
	return nil
}

func lengths(s source) []string {
	var out []string
	for _, d := range s.file.Decls {
		if f, ok := d.(*ast.FuncDecl); ok {
			n := s.set.Position(f.End()).Line - s.set.Position(f.Pos()).Line + 1
			if n > longest {
				out = append(out, f.Name.Name+" has "+strconv.Itoa(n)+" lines")
			}
		}
	}
	return out
}

// calls tells names of the library that may not be used though their package may, and printing.
func calls(s source) []string {
	syncs := []string{"Mutex", "RWMutex", "WaitGroup", "Once"}
	var out []string
	ast.Inspect(s.file, func(n ast.Node) bool {
		switch x := n.(type) {
		case *ast.SelectorExpr:
			p, ok := x.X.(*ast.Ident)
			if ok && (p.Name == "iter" && strings.HasPrefix(x.Sel.Name, "Pull") || p.Name == "sync" && !slices.Contains(syncs, x.Sel.Name)) {
				out = append(out, "use of "+p.Name+"."+x.Sel.Name)
			}
		case *ast.CallExpr:
			if f, ok := x.Fun.(*ast.Ident); ok && (f.Name == "print" || f.Name == "println") {
				out = append(out, "use of "+f.Name)
			}
		}
		return true
	})
	return out
}

// variables tells what stands at package level and may not.
func variables(s source) []string {
	var out []string
	for _, d := range s.file.Decls {
		g, ok := d.(*ast.GenDecl)
		if !ok || g.Tok != token.VAR {
			continue
		}
		for _, x := range g.Specs {
			v := x.(*ast.ValueSpec)
			if len(v.Values) != len(v.Names) {
				out = append(out, v.Names[0].Name+" has no value of its own")
			}
			for i, e := range v.Values {
				if !mayStand(e) {
					out = append(out, v.Names[i].Name+" may not stand at package level")
				}
			}
		}
	}
	return out
}

// mayStand tells whether a package-level variable may be written so: errors and tables alone.
func mayStand(e ast.Expr) bool {
	ok := true
	ast.Inspect(e, func(n ast.Node) bool {
		switch x := n.(type) {
		case *ast.MapType, *ast.FuncType, *ast.FuncLit:
			ok = false
		case *ast.UnaryExpr:
			ok = ok && x.Op != token.AND
		case *ast.CallExpr:
			ok = ok && types.ExprString(x.Fun) == "errors.New"
		}
		return true
	})
	if b, is := e.(*ast.BasicLit); is && b.Kind == token.STRING {
		return false
	}
	return ok
}

func TestProgramKeepsToTheLanguage(t *testing.T) {
	for _, s := range sources(t) {
		for _, f := range faults(s) {
			t.Errorf("%s: %s", s.path, f)
		}
	}
}

func TestPackagesHaveGoFilesAlone(t *testing.T) {
	for _, path := range files(t) {
		if filepath.Ext(path) != ".go" {
			t.Errorf("%s is no Go file", path)
		}
	}
}

// What these tests look for, they find.
func TestFaultsAreFound(t *testing.T) {
	long := "func f() {\n" + strings.Repeat("\tf()\n", longest) + "}\n"
	for text, want := range map[string]int{
		"import \"fmt\"\n":               1,
		"import \"strings\"\n":           0,
		"import \"quire/api\"\n":         0,
		"import . \"strings\"\n":         1,
		"import \"unsafe\"\n":            1,
		"//go:noinline\nfunc f() {}\n":   1,
		"func f()  {}\n":                 1,
		long:                             1,
		"func f() { println(1) }\n":      1,
		"var x = iter.Pull\n":            1,
		"type x struct{ m sync.Map }\n":  1,
		"type x struct{ sync.Mutex }\n":  0,
		"var x int\n":                    1,
		"var x = map[int]int{1: 2}\n":    1,
		"var x = func() {}\n":            1,
		"var x = strings.Repeat(a, 2)\n": 1,
		"var x = \"text\"\n":             1,
		"var x = errors.New(\"text\")\n": 0,
		"var x = [2]int{1, 2}\n":         0,
	} {
		got := faults(parse(t, "x.go", []byte("package x\n\n"+text)))
		if len(got) != want {
			t.Errorf("%q: %v, not %d", text, got, want)
		}
	}
}
