package tests

import (
	"math/rand"
	"slices"
	"strings"
	"testing"

	"loop.example/g00377/impl"
)

const head = "-module(m).\n-export([]).\n"

// shownModules are modules as Show tells them.
var shownModules = []string{
	head + "f() -> 0.\n",
	head + "f() -> 999999999, ok, X, [].\n",
	head + "f(_) -> 1.\n",
	head + "f(A, b, 3, [], {_, [X | _]}, _) -> A.\n",
	head + "f() -> {1}, {a, B, {c}}.\n",
	head + "f() -> [1 | []], [1 | [2 | [3 | T]]], [[] | []], [[a | b] | {c}].\n",
	head + "f() -> 1 + 2, 1 - 2, 1 * 2, 1 == 2, 1 < 2.\n",
	head + "f() -> (1 + 2) - 3, 1 + (2 - 3), (1 * 2) + 3, 1 * (2 + 3), (1 == 2) == 3, 1 < (2 < 3).\n",
	head + "f() -> f(), m:f(), f(1, a, X), other:f((1 + 2), {(X = 3)}, [(1 < 2) | (case X of 1 -> 2 end)]).\n",
	head + "f() -> X = 1, {X, _} = {1, 2}, [H | T] = [1 | 2], 1 = 1, a = a, [] = [], _ = X.\n",
	head + "f() -> X = (Y = (Z = 1)), X = (1 + 2), X = (case Y of Z -> 1 end), (X = 1) + (Y = 2).\n",
	head + "f(X) -> case X of 1 -> 2; {A, _} -> A, X; [] -> Y = X, Y + 1; _ -> case X of Z -> Z end end.\n",
	head + "f(X) -> case (X + 1) of Y -> 1 end, case (case X of Y -> Y end) of Z -> 2 end, case (X = 1) of 1 -> 1 end, case {X} of {_} -> 1 end.\n",
	head + "f(0) -> 0;\nf(X) -> X.\ng() -> 1.\nf() -> 2;\nf() -> 3.\n",
	"-module(aB_1).\n-export([a/0, a/6, b/1]).\nmodule(X) -> X.\nexport() -> module(export), module:module(1).\n",
	"-module(module).\n-export([f/1]).\nput(X) -> put:put(X), put(put).\n",
}

// readModules are texts, and each the same as Show tells it.
var readModules = [][2]string{
	{"f() -> 1 + 2 - 3 + 4.", "f() -> ((1 + 2) - 3) + 4."},
	{"f() -> 1 - 2 - 3.", "f() -> (1 - 2) - 3."},
	{"f() -> 1 * 2 * 3.", "f() -> (1 * 2) * 3."},
	{"f() -> 1 + 2 * 3 - 4 * 5.", "f() -> (1 + (2 * 3)) - (4 * 5)."},
	{"f() -> (1 + 2) * (3 - 4).", "f() -> (1 + 2) * (3 - 4)."},
	{"f() -> 1 + 2 == 3 * 4.", "f() -> (1 + 2) == (3 * 4)."},
	{"f() -> 1 - 2 < 3 + 4.", "f() -> (1 - 2) < (3 + 4)."},
	{"f() -> (1 < 2) < 3, 1 == (2 == 3).", "f() -> (1 < 2) < 3, 1 == (2 == 3)."},
	{"f() -> A = B = C = 1.", "f() -> A = (B = (C = 1))."},
	{"f() -> A = 1 + 2 < 3.", "f() -> A = ((1 + 2) < 3)."},
	{"f() -> {A, _} = [B | 1] = {}:1.", ""},
	{"f() -> 1 + (A = 2) + 3.", "f() -> (1 + (A = 2)) + 3."},
	{"f() -> (((1))), ((A)) = (((2))).", "f() -> 1, A = 2."},
	{"f(((X)), ([A])) -> X.", "f(X, [A | []]) -> X."},
	{"f() -> [1], [1, 2], [1, 2 | 3], [1 | [2, 3]], [[1], [2] | []].", "f() -> [1 | []], [1 | [2 | []]], [1 | [2 | 3]], [1 | [2 | [3 | []]]], [[1 | []] | [[2 | []] | []]]."},
	{"f() -> [A = 1, B = 2 | C = 3].", "f() -> [(A = 1) | [(B = 2) | (C = 3)]]."},
	{"f() -> {A = 1, 1 == 2, 1 + 2}.", "f() -> {(A = 1), (1 == 2), (1 + 2)}."},
	{"f() -> g(A = 1, 1 == 2), a:g(1 - 2, case 1 of 2 -> 3 end).", "f() -> g((A = 1), (1 == 2)), a:g((1 - 2), (case 1 of 2 -> 3 end))."},
	{"f() -> case A = 1 of 1 -> A = 2, 3; (B) -> 1 + 2 * 3 end + 4.", "f() -> (case (A = 1) of 1 -> A = 2, 3; B -> 1 + (2 * 3) end) + 4."},
	{"f() -> case 1 of _ -> case 2 of _ -> 3; _ -> 4 end; _ -> 5 end.", "f() -> case 1 of _ -> case 2 of _ -> 3; _ -> 4 end; _ -> 5 end."},
	{"f() -> 007, 000000000.", "f() -> 7, 0."},
	{"f() -> 1 . % the end\n% f() -> 2.", "f() -> 1."},
	{"f()->g:h(-1).", ""},
	{"f ( ) ->\n1\n,\n2\n;\nf (\n) -> 3 .", "f() -> 1, 2;\nf() -> 3."},
}

// P2: of modules of every kind that are shown.
func TestShownIsReadAsTheSame(t *testing.T) {
	for _, text := range shownModules {
		m, line := impl.Parse(text)
		if line != 0 || impl.Show(m) != text {
			t.Errorf("Parse of %q: line %d, Show is %q", text, line, impl.Show(m))
		}
		checkShown(t, m)
	}
	m := newMaker(1)
	for range 3000 {
		checkShown(t, m.module(1+m.Intn(4)))
	}
}

func checkShown(t *testing.T, m impl.Module) {
	t.Helper()
	text := impl.Show(m)
	again, line := impl.Parse(text)
	if line != 0 || !impl.Same(again, m) || !sameTree(again, m) || impl.Show(again) != text {
		t.Errorf("%v is shown as %q, and read as %v, %d", m, text, again, line)
	}
}

// sameTree is Same told a second time, by plain text.
func sameTree(a, b impl.Module) bool {
	return plain(a) == plain(b)
}

func TestReadAsItIsMeant(t *testing.T) {
	for _, c := range readModules {
		m, line := impl.Parse(head + c[0])
		switch {
		case c[1] == "" && line == 0:
			t.Errorf("%q is read", c[0])
		case c[1] != "" && (line != 0 || impl.Show(m) != head+c[1]+"\n"):
			t.Errorf("%q is read as %q, line %d", c[0], impl.Show(m), line)
		}
	}
	m := newMaker(2)
	read := 0
	for range 3000 {
		made := m.module(1 + m.Intn(4))
		text := m.spaced(m.freelyModule(made))
		if len(text) > impl.MaxText {
			continue
		}
		read++
		if got, line := impl.Parse(text); line != 0 || !sameTree(got, made) {
			t.Errorf("%q is read as %v, %d, not %v", text, got, line, made)
		}
	}
	if read < 2000 {
		t.Error("most texts were too long", read)
	}
}

func TestReadParts(t *testing.T) {
	m, line := impl.Parse("-module(m).\n-export([f/2, g/0]).\nf({a, 7}, _) -> X = [1 | []], Y + X;\nf(_, []) -> o:g(Z), g().\ng() -> case 1 of 2 -> 3 end.\n")
	want := impl.Module{
		Name:    "m",
		Exports: []impl.Ref{{Name: "f", Arity: 2}, {Name: "g"}},
		Funs: []impl.Fun{
			{Name: "f", Arity: 2, Clauses: []impl.Clause{
				clause([]impl.Exp{tuple(atom("a"), num(7)), anyOne()}, match(variable("X"), cons(num(1), none())), op("+", variable("Y"), variable("X"))),
				clause([]impl.Exp{anyOne(), none()}, call("o", "g", variable("Z")), call("", "g")),
			}},
			{Name: "g", Clauses: []impl.Clause{clause(nil, cases(num(1), clause(only(num(2)), num(3))))}},
		},
	}
	if line != 0 || !sameTree(m, want) {
		t.Error("parts", m, line)
	}
}

// misfits are texts behind head that do not fit, and the line; the text begins in line 3.
var misfits = []struct {
	text string
	line int
}{
	{"", 2},
	{"\n\n% nothing\n", 2},
	{"f", 3},
	{"f(", 3},
	{"f()\n", 3},
	{"f()\n->", 4},
	{"f() ->\n1", 4},
	{"f() -> 1\n;", 4},
	{"f() -> 1\n,", 4},
	{"f() -> 1\n\n\n", 3},
	{"f() -> 1.\n2", 4},
	{"f() -> 1.\ng", 4},
	{"F() -> 1.", 3},
	{"f\n[] -> 1.", 4},
	{"f() ->\n.", 4},
	{"f() -> 1\n2.", 4},
	{"f() -> 1,\n.", 4},
	{"f() -> 1;\n.", 4},
	{"f(\n,) -> 1.", 4},
	{"f(1,\n) -> 1.", 4},
	{"f(1\n2) -> 1.", 4},
	{"f(1)\n= 1.", 4},
	{"f() -> 1\n== 2\n== 3.", 5},
	{"f() -> 1 < 2\n< 3.", 4},
	{"f() -> 1 == 2\n< 3.", 4},
	{"f() -> 1 +\n+ 2.", 4},
	{"f() -> 1\n/ 2.", 4},
	{"f() ->\n- 2.", 4},
	{"f() -> 1 *\n.", 4},
	{"f() -> 1 + 1\n= 2.", 4},
	{"f() -> f()\n= 2.", 4},
	{"f() -> (A = 1)\n= 2.", 4},
	{"f() -> 1 == 1\n= 2.", 4},
	{"f() -> A == B\n= 2.", 4},
	{"f() -> {A, f()}\n= 2.", 4},
	{"f() -> [A | 1 + 1]\n= 2.", 4},
	{"f() -> [{A, B = 1}]\n= 2.", 4},
	{"f() -> case 1 of 2 -> 3 end\n= 2.", 4},
	{"f() -> A = f()\n= 2.", 4},
	{"f() -> A =\n= 2.", 4},
	{"f() -> A =\n.", 4},
	{"f() -> {1\n.", 4},
	{"f() -> {1,\n}.", 4},
	{"f() -> {1 |\n 2}.", 3},
	{"f() -> [\n| 1].", 4},
	{"f() -> [1,\n].", 4},
	{"f() -> [1 |\n].", 4},
	{"f() -> [1 | 2\n, 3].", 4},
	{"f() -> [1 | 2\n| 3].", 4},
	{"f() -> [1,\n| 3].", 4},
	{"f() -> (\n).", 4},
	{"f() -> (1\n, 2).", 4},
	{"f() -> (1\n.", 4},
	{"f() -> a:b\n.", 4},
	{"f() -> a:\n(1).", 4},
	{"f() -> a:\nB(1).", 4},
	{"f() -> a\n:b:c().", 4},
	{"f() -> A\n:b().", 4},
	{"f() -> A\n(1).", 4},
	{"f() -> a(1)\n(1).", 4},
	{"f() -> (a)\n(1).", 4},
	{"f() -> a(1,\n).", 4},
	{"f() -> case\nof 1 -> 2 end.", 4},
	{"f() -> case 1\n1 -> 2 end.", 4},
	{"f() -> case 1 of\nend.", 4},
	{"f() -> case 1 of 2\nend.", 4},
	{"f() -> case 1 of 2 ->\nend.", 4},
	{"f() -> case 1 of 2 -> 3;\nend.", 4},
	{"f() -> case 1 of 2 -> 3\n.", 4},
	{"f() -> case 1 of 2, 3 -> 3 end.\n", 3},
	{"f() -> case 1,\n2 of 2 -> 3 end.", 3},
	{"f() ->\nend.", 4},
	{"f() ->\nof.", 4},
	{"f() -> f(X)\n-> 1.", 4},
	{"f() -> 1.\n.", 4},
	{"f() -> 1.\n-export([]).", 4},
	// A clause of another name, and one with another number of patterns.
	{"f(X) -> 1;\ng(X) -> 2.", 4},
	{"f(X) -> 1;\nF(X) -> 2.", 4},
	{"f(X) -> 1;\n\n2.", 5},
	{"f(X) -> 1;\nf(X, Y)\n-> 2.", 5},
	{"f(X) -> 1;\nf()\n-> 2.", 5},
	{"f() -> 1;\nf(X\n)\n-> 2.", 6},
	{"f(X) -> 1;\nf(X, Y)\n.", 5},
	{"f(X) -> 1;\nf(X, Y\n)\n", 5},
	{"f(X) -> 1;\nf(X\n, Y +) -> 2.", 5},
	{"f(X) -> 1;\nf(X) -> 2;\nf(X, Y) ->\n 2.", 5},
	{"f(1,2,3,4,5,6,7) -> 1;\nf(1,2,3,4,5,6) -> 1.", 4},
}

func TestFirstMisfit(t *testing.T) {
	for _, c := range misfits {
		checkNoModule(t, head+c.text, c.line)
	}
	for text, line := range map[string]int{
		"\n\nmodule(m).":                               3,
		"-\nmodul(m).":                                 2,
		"-\nmodule\n[m].":                              3,
		"-module(\nM).":                                2,
		"-module(\ncase).":                             2,
		"-module(m\n, n).":                             2,
		"-module(m)\n-export([]).":                     2,
		"-module(m).\nf() -> 1.":                       2,
		"-module(m).\n-module(m).":                     2,
		"-export([]).\n-module(m).":                    1,
		"-module(m).\n-export(\n).":                    3,
		"-module(m).\n-export([\n,f/1]).":              3,
		"-module(m).\n-export([f/1,\n]).":              3,
		"-module(m).\n-export([f/1\ng/1]).":            3,
		"-module(m).\n-export([f\n]).":                 3,
		"-module(m).\n-export([f/\nX]).":               3,
		"-module(m).\n-export([f/\n-1]).":              3,
		"-module(m).\n-export([\nF/1]).":               3,
		"-module(m).\n-export([f/1 |\n g/1]).":         2,
		"-module(m).\n-export([f/1])\nf(X) -> X.":      3,
		"-module(m).\n-export([f/1]).\n\n-f(X) -> X.":  4,
		"-module(m).\n-export([f/1]).\n\n":             2,
		"-module(m).\n-export([f/1]).\nf(X) -> X;\n% ": 3,
	} {
		checkNoModule(t, text, line)
	}
}

func checkNoModule(t *testing.T, text string, want int) {
	t.Helper()
	if m, line := impl.Parse(text); line != want || plain(m) != plain(impl.Module{}) {
		t.Errorf("Parse of %q is %v, %d, not line %d", text, m, line, want)
	}
}

func TestTextWithoutWords(t *testing.T) {
	for _, text := range []string{"", " ", "\n\n\n", "% a remark", "\n\n% a remark\n\n"} {
		checkNoModule(t, text, 1)
	}
}

func TestTextThatLexRefuses(t *testing.T) {
	for text, line := range map[string]int{
		"!":                          1,
		"a b c\n!":                   2,
		head + "f() -> 1.\n?":        4,
		head + "f() -> 1000000000.":  3,
		head + "f() -> abcdefghijk.": 3,
		head + "f() -> (_x).":        3,
		head + "f() -> 1.\n\t":       4,
		head + ". . .\n\n!":          5,
		head + "f() -> 1.\n" + strings.Repeat(" ", impl.MaxText): 1,
	} {
		checkNoModule(t, text, line)
	}
	full := head + "f() -> 1."
	full += strings.Repeat(" ", impl.MaxText-len(full))
	if _, line := impl.Parse(full); line != 0 {
		t.Error("a text at the limit", line)
	}
	checkNoModule(t, full+" ", 1)
}

// Each text that ends too soon has the line of its last word.
func TestTextThatEndsTooSoon(t *testing.T) {
	for _, text := range shownModules {
		list, _ := impl.Lex(text)
		words := []string{}
		for _, w := range list {
			if w.Kind == impl.TokNumber {
				words = append(words, impl.DecText(w.N))
			} else {
				words = append(words, w.Text)
			}
		}
		for count := 1; count < len(words); count++ {
			_, line := impl.Parse(strings.Join(words[:count], "\n") + "\n\n% no more\n")
			// Behind the header's two points each point ends a function.
			whole := words[count-1] == "." && slices.Index(words[slices.Index(words, ".")+1:], ".")+slices.Index(words, ".")+1 < count-1
			if whole && line != 0 || !whole && line != count {
				t.Errorf("%q: line %d", words[:count], line)
			}
		}
	}
}

// What fits, and is no module: line 1.
func TestReadButNotOk(t *testing.T) {
	for _, body := range []string{
		"{}", "{{}}", "f({})", "{} = 1", "{{}, A} = 1", "[{} | 1]",
		"_", "{_}", "[_ | 1]", "[1 | _]", "f(_)", "_ + 1", "1 * _", "_ == 1", "1 < _", "A = _", "_ = _", "(_)", "case _ of 1 -> 1 end", "case 1 of 1 -> _ end",
		"case 1 of 1 + 2 -> 3 end", "case 1 of f() -> 3 end", "case 1 of A = 2 -> 3 end", "case 1 of {A, 1 < 2} -> 3 end", "case 1 of case 1 of 2 -> 3 end -> 4 end", "case 1 of [1 | m:f()] -> 3 end",
		"f(1, 2, 3, 4, 5, 6, 7)", "m:f(1, 2, 3, 4, 5, 6, 7)",
	} {
		checkNoModule(t, "\n\n"+head+"f() ->\n"+body+".", 1)
	}
	for _, pats := range []string{"1 + 2", "f()", "m:f()", "X = 1", "{X = 1}", "[1 | 2 * 3]", "1 == 2", "case 1 of 2 -> 3 end", "{}", "[{} | _]", "X, Y, f(1)", "1, 2, 3, 4, 5, 6, 7"} {
		checkNoModule(t, "\n\n"+head+"f("+pats+") -> 1.", 1)
	}
	for _, exports := range []string{"f/1, f/1", "f/2, f/1", "g/1, f/1", "f/1, a/2, g/1", "f/7", "f/999999999", "a/1, b/1, a/2"} {
		checkNoModule(t, "\n\n-module(m).\n-export(["+exports+"]).\nf(X) -> X.", 1)
	}
	checkNoModule(t, "\n\n"+head+"f() -> 1.\nf() -> 2.", 1)
	checkNoModule(t, "\n\n"+head+"f(X) -> 1.\nf() -> 2.\nf(Y) -> 2.", 1)
	checkNoModule(t, "\n\n"+head+"f(1,2,3,4,5,6,7) -> 1;\nf(1,2,3,4,5,6,7) -> 1.", 1)
}

// manyTexts joins as many texts as told.
func manyTexts(count int, separator string, text func(i int) string) string {
	list := []string{}
	for i := range count {
		list = append(list, text(i))
	}
	return strings.Join(list, separator)
}

func numbered(name string) func(int) string {
	return func(i int) string { return name + impl.DecText(10+i) }
}

func same(text string) func(int) string {
	return func(int) string { return text }
}

func TestLimits(t *testing.T) {
	cases := []struct {
		what string
		most int
		text func(n int) string
	}{
		{"exports", 20, func(n int) string {
			return "-module(m).\n-export([" + manyTexts(n, ", ", func(i int) string { return numbered("e")(i) + "/0" }) + "]).\nf() -> 1."
		}},
		{"arity of an export", 6, func(n int) string { return "-module(m).\n-export([f/" + impl.DecText(n) + "]).\nf() -> 1." }},
		{"functions", 30, func(n int) string {
			return head + manyTexts(n, "\n", func(i int) string { return numbered("f")(i) + "() -> 1." })
		}},
		{"patterns", 6, func(n int) string { return head + "f(" + manyTexts(n, ", ", numbered("X")) + ") -> 1." }},
		{"clauses", 20, func(n int) string { return head + manyTexts(n, ";\n", same("f() -> 1")) + "." }},
		{"expressions of a body", 20, func(n int) string { return head + "f() -> " + manyTexts(n, ", ", same("1")) + "." }},
		{"kids of a tuple", 20, func(n int) string { return head + "f() -> {" + manyTexts(n, ", ", same("1")) + "}." }},
		{"kids of a pattern", 20, func(n int) string { return head + "f({" + manyTexts(n, ", ", same("_")) + "}) -> 1." }},
		{"kids ahead of =", 20, func(n int) string { return head + "f() -> {" + manyTexts(n, ", ", same("_")) + "} = 1." }},
		{"kids of a call", 6, func(n int) string { return head + "f() -> g(" + manyTexts(n, ", ", same("1")) + ")." }},
		{"kids of a far call", 6, func(n int) string { return head + "f() -> m:g(" + manyTexts(n, ", ", same("1")) + ")." }},
		{"clauses of a case", 20, func(n int) string {
			return head + "f() -> case 1 of " + manyTexts(n, "; ", same("1 -> 2")) + " end."
		}},
		{"expressions of a case", 20, func(n int) string {
			return head + "f() -> case 1 of 1 -> " + manyTexts(n, ", ", same("1")) + " end."
		}},
		{"tuples within tuples", 40, func(n int) string {
			return head + "f() -> " + strings.Repeat("{", n) + "1" + strings.Repeat("}", n) + "."
		}},
		{"tuples within a pattern", 40, func(n int) string {
			return head + "f(" + strings.Repeat("{", n) + "1" + strings.Repeat("}", n) + ") -> 1."
		}},
		{"cells of a list", 40, func(n int) string { return head + "f() -> [" + manyTexts(n, ", ", same("1")) + "]." }},
		{"sums", 40, func(n int) string { return head + "f() -> 1" + strings.Repeat(" + 1", n) + "." }},
		{"products", 40, func(n int) string { return head + "f() -> 1" + strings.Repeat(" * 1", n) + "." }},
		{"matches", 40, func(n int) string { return head + "f() -> " + strings.Repeat("A = ", n) + "1." }},
		{"calls within calls", 40, func(n int) string {
			return head + "f() -> " + strings.Repeat("g(", n) + strings.Repeat(")", n) + "."
		}},
		{"cases within clauses", 40, func(n int) string {
			return head + "f() -> " + strings.Repeat("case 1 of 1 -> ", n) + "1" + strings.Repeat(" end", n) + "."
		}},
		{"cases within cases", 40, func(n int) string {
			return head + "f() -> " + strings.Repeat("case ", n) + "1" + strings.Repeat(" of 1 -> 1 end", n) + "."
		}},
		{"a tuple in a case's pattern", 40, func(n int) string {
			return head + "f() -> case 1 of " + strings.Repeat("{", n-1) + "1" + strings.Repeat("}", n-1) + " -> 1 end."
		}},
		{"a tuple ahead of =", 40, func(n int) string {
			return head + "f() -> " + strings.Repeat("{", n-1) + "1" + strings.Repeat("}", n-1) + " = 1."
		}},
	}
	for _, c := range cases {
		m, line := impl.Parse(c.text(c.most))
		if line != 0 {
			t.Errorf("%s: %d are refused, line %d", c.what, c.most, line)
		}
		checkShown(t, m)
		if c.what == "calls within calls" {
			// The innermost call has no kid: one more is as deep as is allowed.
			checkShown(t, parsed(t, c.text(c.most+1)))
			checkNoModule(t, "\n"+c.text(c.most+2), 1)
			continue
		}
		checkNoModule(t, "\n"+c.text(c.most+1), 1)
	}
	// Brackets make nothing deeper.
	checkShown(t, parsed(t, head+"f() -> "+strings.Repeat("(", 1000)+"1"+strings.Repeat(")", 1000)+"."))
	checkNoModule(t, head+"f() -> "+strings.Repeat("(", 3000), 3)
	checkNoModule(t, head+"f() -> "+strings.Repeat("{", 3000), 3)
	checkNoModule(t, "\n"+head+"f() -> "+strings.Repeat("{", 1800)+"1"+strings.Repeat("}", 1800)+".", 1)
}

func parsed(t *testing.T, text string) impl.Module {
	t.Helper()
	m, line := impl.Parse(text)
	if line != 0 {
		t.Fatalf("Parse of %q: line %d", text, line)
	}
	return m
}

func TestShowText(t *testing.T) {
	m := impl.Module{
		Name:    "m",
		Exports: []impl.Ref{{Name: "a", Arity: 0}, {Name: "a", Arity: 1}, {Name: "b", Arity: 6}},
		Funs: []impl.Fun{
			{Name: "f", Arity: 2, Clauses: []impl.Clause{
				clause([]impl.Exp{variable("X"), anyOne()}, match(variable("Y"), op("<", variable("X"), num(10))), variable("Y")),
				clause([]impl.Exp{cons(anyOne(), none()), tuple(atom("a"))}, op("==", match(anyOne(), num(1)), cases(num(2), clause(only(num(2)), num(3))))),
			}},
			{Name: "g", Clauses: []impl.Clause{clause(nil, cases(op("-", num(1), num(2)), clause(only(anyOne()), call("m", "f", num(1), op("*", num(2), num(3))), op("+", num(1), num(2))), clause(only(none()), match(anyOne(), none()))))}},
		},
	}
	want := "-module(m).\n-export([a/0, a/1, b/6]).\n" +
		"f(X, _) -> Y = (X < 10), Y;\nf([_ | []], {a}) -> (_ = 1) == (case 2 of 2 -> 3 end).\n" +
		"g() -> case (1 - 2) of _ -> m:f(1, (2 * 3)), 1 + 2; [] -> _ = [] end.\n"
	if got := impl.Show(m); got != want {
		t.Errorf("Show is %q", got)
	}
}

// A module may be longer as a text than a text may be read.
func TestShowLongText(t *testing.T) {
	body := []impl.Exp{}
	for range 20 {
		kids := []impl.Exp{}
		for range 20 {
			kids = append(kids, num(999999999))
		}
		body = append(body, tuple(kids...))
	}
	m := bodied(body...)
	text := impl.Show(m)
	if len(text) <= impl.MaxText || !strings.HasPrefix(text, head+"f() -> {999999999, ") || !strings.HasSuffix(text, ", 999999999}.\n") {
		t.Error("a long module", len(text))
	}
	checkNoModule(t, text, 1)
}

func checkNotOk(t *testing.T, what string, m impl.Module) {
	t.Helper()
	if impl.ModuleOk(m) {
		t.Errorf("%s: %v is ModuleOk", what, m)
	}
	if text := impl.Show(m); text != "" {
		t.Errorf("%s: %v is shown as %q", what, m, text)
	}
}

func TestModuleOk(t *testing.T) {
	m := newMaker(4)
	for range 500 {
		if made := m.module(4); !impl.ModuleOk(made) {
			t.Errorf("%v is not ModuleOk", made)
		}
	}
	one := clause(nil, num(1))
	checkNotOk(t, "nothing", impl.Module{})
	checkNotOk(t, "no function", impl.Module{Name: "m"})
	for _, name := range []string{"", "M", "_", "case", "abcdefghijk", "a b", "1a", "a\n", "\xff"} {
		made := holding(one)
		made.Name = name
		checkNotOk(t, "name", made)
		made = holding(one)
		made.Funs[0].Name = name
		checkNotOk(t, "function's name", made)
		made = holding(one)
		made.Exports = []impl.Ref{{Name: name}}
		checkNotOk(t, "export's name", made)
	}
	for _, arity := range []int{-1, 7, 1 << 62} {
		made := holding(one)
		made.Exports = []impl.Ref{{Name: "f", Arity: arity}}
		checkNotOk(t, "export's arity", made)
		made = holding(one)
		made.Funs[0].Arity = arity
		checkNotOk(t, "arity", made)
	}
	checkNotOk(t, "arity without patterns", impl.Module{Name: "m", Funs: []impl.Fun{{Name: "f", Arity: 1, Clauses: []impl.Clause{one}}}})
	checkNotOk(t, "patterns without arity", impl.Module{Name: "m", Funs: []impl.Fun{{Name: "f", Clauses: []impl.Clause{clause(only(num(1)), num(1))}}}})
	checkNotOk(t, "clauses of two kinds", holding(one, clause(only(num(1)), num(1))))
	checkNotOk(t, "seven patterns", holding(clause(slices.Repeat(only(num(1)), 7), num(1))))
	checkNotOk(t, "no clause", impl.Module{Name: "m", Funs: []impl.Fun{{Name: "f"}}})
	checkNotOk(t, "no body", holding(clause(nil)))
	checkNotOk(t, "functions alike", impl.Module{Name: "m", Funs: []impl.Fun{holding(one).Funs[0], {Name: "g", Clauses: []impl.Clause{one}}, holding(one).Funs[0]}})
	for _, refs := range [][]impl.Ref{{{Name: "a", Arity: 1}, {Name: "a", Arity: 1}}, {{Name: "a", Arity: 1}, {Name: "a"}}, {{Name: "b"}, {Name: "a"}}, {{Name: "a"}, {Name: "c"}, {Name: "b", Arity: 2}}} {
		made := holding(one)
		made.Exports = refs
		checkNotOk(t, "exports", made)
	}
	made := holding(one)
	made.Exports = []impl.Ref{{Name: "a"}, {Name: "a", Arity: 6}, {Name: "aB"}, {Name: "a_"}, {Name: "b"}}
	if !impl.ModuleOk(made) {
		t.Error("exports by bytes")
	}
}

// kinds are one good expression of each kind, and the fields that it has.
var kinds = []struct {
	exp  impl.Exp
	has  string
	pats bool
}{
	{num(1), "N", true},
	{atom("a"), "Text", true},
	{variable("X"), "Text", true},
	{anyOne(), "", true},
	{tuple(num(1)), "Kids", true},
	{none(), "", true},
	{cons(num(1), none()), "Kids", true},
	{op("+", num(1), num(2)), "Text Kids", false},
	{call("", "f"), "Text Mod Kids", false},
	{call("m", "f", num(1)), "Text Mod Kids", false},
	{match(variable("X"), num(1)), "Kids", false},
	{cases(num(1), clause(only(num(1)), num(1))), "Kids Clauses", false},
}

func patterned(e impl.Exp) impl.Module { return holding(clause(only(e), num(1))) }

func TestFieldsOfAKind(t *testing.T) {
	for _, k := range kinds {
		if impl.ModuleOk(patterned(k.exp)) != k.pats {
			t.Errorf("%v as a pattern", k.exp)
		}
		if impl.ModuleOk(bodied(k.exp)) != (k.exp.Kind != impl.ExAny) {
			t.Errorf("%v as an expression", k.exp)
		}
		for field, fill := range map[string]func(*impl.Exp){
			"N":       func(e *impl.Exp) { e.N = 1 },
			"Text":    func(e *impl.Exp) { e.Text = "a" },
			"Mod":     func(e *impl.Exp) { e.Mod = "a" },
			"Kids":    func(e *impl.Exp) { e.Kids = only(num(1)) },
			"Clauses": func(e *impl.Exp) { e.Clauses = []impl.Clause{clause(only(num(1)), num(1))} },
		} {
			if strings.Contains(k.has, field) {
				continue
			}
			e := k.exp
			fill(&e)
			checkNotOk(t, field, bodied(e))
			checkNotOk(t, field, patterned(e))
			checkNotOk(t, field, bodied(tuple(num(1), e)))
		}
	}
	for _, kind := range []int{-1, 11, 1 << 40} {
		checkNotOk(t, "kind", bodied(impl.Exp{Kind: kind}))
		checkNotOk(t, "kind", patterned(impl.Exp{Kind: kind}))
	}
}

func TestPartsOfAKind(t *testing.T) {
	one, two, three := only(num(1)), []impl.Exp{num(1), num(2)}, []impl.Exp{num(1), num(2), num(3)}
	good := clause(only(num(1)), num(1))
	for _, e := range []impl.Exp{
		num(-1), num(1000000000), num(-1 << 63),
		atom(""), atom("X"), atom("case"), atom("_"), atom("abcdefghijk"), atom("a b"),
		variable(""), variable("a"), variable("_"), variable("Abcdefghijk"),
		tuple(),
		{Kind: impl.ExCons}, {Kind: impl.ExCons, Kids: one}, {Kind: impl.ExCons, Kids: three},
		op("", num(1), num(2)), op("/", num(1), num(2)), op("=", num(1), num(2)), op("a", num(1), num(2)), op("->", num(1), num(2)),
		{Kind: impl.ExOp, Text: "+"}, {Kind: impl.ExOp, Text: "+", Kids: one}, {Kind: impl.ExOp, Text: "+", Kids: three},
		call("", ""), call("", "F"), call("", "end"), call("M", "f"), call("case", "f"), call("m", ""), call(" ", "f"),
		{Kind: impl.ExMatch}, {Kind: impl.ExMatch, Kids: one}, {Kind: impl.ExMatch, Kids: three},
		match(op("+", num(1), num(2)), num(1)), match(call("", "f"), num(1)), match(match(num(1), num(1)), num(1)), match(tuple(cases(num(1), good)), num(1)), match(num(1), anyOne()),
		cases(num(1)), {Kind: impl.ExCase, Clauses: []impl.Clause{good}}, {Kind: impl.ExCase, Kids: two, Clauses: []impl.Clause{good}},
		cases(num(1), clause(nil, num(1))), cases(num(1), clause(two, num(1))), cases(num(1), clause(one)), cases(num(1), good, clause(one)),
		cases(num(1), clause(only(call("", "f")), num(1))), cases(num(1), clause(one, anyOne())), cases(anyOne(), good),
	} {
		checkNotOk(t, "parts", bodied(e))
		checkNotOk(t, "parts", bodied(num(1), cons(num(1), e)))
		checkNotOk(t, "parts", bodied(cases(num(1), good, clause(one, num(1), e))))
		checkNotOk(t, "parts", patterned(e))
	}
	if !impl.ModuleOk(bodied(num(0), num(999999999), match(anyOne(), num(1)), match(tuple(anyOne(), cons(anyOne(), anyOne())), num(1)))) {
		t.Error("numbers and _ ahead of =")
	}
}

func TestModuleWithoutAnEnd(t *testing.T) {
	kids := []impl.Exp{num(1), num(2)}
	kids[0] = tuple(kids...)
	kids[0].Kids = kids
	checkEndless(t, bodied(kids[0]))
	list := []impl.Clause{clause(only(num(1)), num(1))}
	list[0].Body[0] = cases(num(1))
	list[0].Body[0].Clauses = list
	checkEndless(t, bodied(list[0].Body[0]))
}

// checkEndless tells nothing of the module itself: it has no text.
func checkEndless(t *testing.T, m impl.Module) {
	t.Helper()
	if impl.ModuleOk(m) || impl.Show(m) != "" {
		t.Error("a module that goes down without an end")
	}
}

func TestSame(t *testing.T) {
	whole := func() impl.Module {
		m := bodied(num(1), cases(call("m", "f", num(2)), clause(only(num(3)), num(4))))
		m.Exports = []impl.Ref{{Name: "f", Arity: 1}}
		return m
	}
	if !impl.Same(whole(), whole()) || !impl.Same(impl.Module{}, impl.Module{}) {
		t.Error("the same")
	}
	for i, change := range []func(*impl.Module){
		func(m *impl.Module) { m.Name = "n" },
		func(m *impl.Module) { m.Exports[0].Name = "g" },
		func(m *impl.Module) { m.Exports[0].Arity = 2 },
		func(m *impl.Module) { m.Exports = nil },
		func(m *impl.Module) { m.Exports = append(m.Exports, impl.Ref{}) },
		func(m *impl.Module) { m.Funs = nil },
		func(m *impl.Module) { m.Funs = append(m.Funs, impl.Fun{}) },
		func(m *impl.Module) { m.Funs[0].Name = "g" },
		func(m *impl.Module) { m.Funs[0].Arity = 1 },
		func(m *impl.Module) { m.Funs[0].Clauses = nil },
		func(m *impl.Module) { m.Funs[0].Clauses = append(m.Funs[0].Clauses, impl.Clause{}) },
		func(m *impl.Module) { m.Funs[0].Clauses[0].Pats = only(num(1)) },
		func(m *impl.Module) { m.Funs[0].Clauses[0].Body = only(num(1)) },
		func(m *impl.Module) { m.Funs[0].Clauses[0].Body[0].Kind = impl.ExAny },
		func(m *impl.Module) { m.Funs[0].Clauses[0].Body[0].N = 2 },
		func(m *impl.Module) { m.Funs[0].Clauses[0].Body[0].Text = "a" },
		func(m *impl.Module) { m.Funs[0].Clauses[0].Body[0].Mod = "a" },
		func(m *impl.Module) { m.Funs[0].Clauses[0].Body[0].Kids = only(num(0)) },
		func(m *impl.Module) { m.Funs[0].Clauses[0].Body[0].Clauses = []impl.Clause{{}} },
		func(m *impl.Module) { m.Funs[0].Clauses[0].Body[1].Kids[0].Kids[0].N = 0 },
		func(m *impl.Module) { m.Funs[0].Clauses[0].Body[1].Clauses[0].Pats[0].N = 0 },
		func(m *impl.Module) { m.Funs[0].Clauses[0].Body[1].Clauses[0].Body[0].N = 0 },
	} {
		other := whole()
		change(&other)
		if impl.Same(whole(), other) || impl.Same(other, whole()) || !impl.Same(other, other) {
			t.Errorf("change %d: %v", i, other)
		}
	}
}

func TestEmptyAndNilAreTheSame(t *testing.T) {
	a := bodied(num(1))
	b := impl.Module{
		Name:    "m",
		Exports: []impl.Ref{},
		Funs: []impl.Fun{{Name: "f", Clauses: []impl.Clause{{
			Pats: []impl.Exp{},
			Body: []impl.Exp{{Kind: impl.ExNum, N: 1, Kids: []impl.Exp{}, Clauses: []impl.Clause{}}},
		}}}},
	}
	if !impl.Same(a, b) || !impl.Same(b, a) || !impl.ModuleOk(b) || impl.Show(a) != impl.Show(b) {
		t.Error("empty lists and nil")
	}
	if !impl.Same(impl.Module{}, impl.Module{Exports: []impl.Ref{}, Funs: []impl.Fun{}}) {
		t.Error("empty modules")
	}
}

func TestModuleMemory(t *testing.T) {
	for _, text := range shownModules {
		first := parsed(t, text)
		checkApart(t, first)
		checkUntouched(t, first, func(m impl.Module) {
			impl.Show(m)
			impl.ModuleOk(m)
			impl.Same(m, m)
		})
		second := parsed(t, text)
		checkApart(t, second, first)
		first.Funs[0].Clauses[0].Body[0] = atom("gone")
		if impl.Show(second) != text || impl.Show(parsed(t, text)) != text {
			t.Errorf("%q: an answer that was written into changed another one", text)
		}
	}
	m := newMaker(5)
	for range 200 {
		made := m.module(4)
		again := parsed(t, impl.Show(made))
		checkApart(t, again, made)
		checkUntouched(t, made, func(m impl.Module) { impl.Show(m) })
	}
}

func TestAnyBytes(t *testing.T) {
	r := rand.New(rand.NewSource(6))
	for range 3000 {
		bytes := make([]byte, r.Intn(60))
		for i := range bytes {
			bytes[i] = byte(r.Intn(256))
		}
		checkAnswer(t, string(bytes))
		checkAnswer(t, head+"f() -> "+string(bytes)+".")
	}
	for _, text := range madeTexts(3000) {
		checkAnswer(t, text)
		checkAnswer(t, head+text)
		checkAnswer(t, head+"f() -> "+text)
	}
}

// checkAnswer holds of any text: a module that is ModuleOk and 0, or nothing and a line that the text has.
func checkAnswer(t *testing.T, text string) {
	t.Helper()
	m, line := impl.Parse(text)
	if line == 0 {
		checkShown(t, m)
		return
	}
	if plain(m) != plain(impl.Module{}) || line < 1 || line > 1+strings.Count(text, "\n") {
		t.Errorf("Parse of %q is %v, %d", text, m, line)
	}
}

func TestModuleConstants(t *testing.T) {
	got := [12]int{impl.ExNum, impl.ExAtom, impl.ExVar, impl.ExAny, impl.ExTuple, impl.ExNil, impl.ExCons, impl.ExOp, impl.ExCall, impl.ExMatch, impl.ExCase, impl.MaxDeep}
	if got != [12]int{0, 1, 2, 3, 4, 5, 6, 7, 8, 9, 10, 40} {
		t.Error("constants", got)
	}
}
