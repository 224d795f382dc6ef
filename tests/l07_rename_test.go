package tests

import (
	"math"
	"slices"
	"strconv"
	"strings"
	"sync"
	"testing"

	"loop.example/g00377/impl"
)

func place(mod, name string, arity, clause int) impl.Place {
	return impl.Place{Mod: mod, Name: name, Arity: arity, Clause: clause}
}

func sameProgram(a, b []impl.Module) bool { return slices.EqualFunc(a, b, impl.Same) }

// checkMade wants a change that is made, and this program by it.
func checkMade(t *testing.T, p, got []impl.Module, code int, want []impl.Module) {
	t.Helper()
	if code != impl.EdOk || !sameProgram(got, want) {
		t.Errorf("%sbecomes (%s)\n%snot\n%s", programTextOf(p), impl.CodeText(code), programTextOf(got), programTextOf(want))
	}
	if !impl.Good(got) {
		t.Errorf("%sis not good", programTextOf(got))
	}
	checkApart(t, got, p)
}

// checkRefused wants a code, and p itself as it was beside it.
func checkRefused(t *testing.T, what string, p, got []impl.Module, code, want int) {
	t.Helper()
	if code != want {
		t.Errorf("%s: the code is %d, not %d\n%s", what, code, want, programTextOf(p))
	}
	if !sameProgram(got, p) {
		t.Errorf("%s: %s stands beside the code, not %s", what, plain(got), plain(p))
	}
	checkApart(t, got, p)
}

func checkVarCode(t *testing.T, p []impl.Module, at impl.Place, from, to string, want int) {
	t.Helper()
	got, code := impl.RenameVar(p, at, from, to)
	checkRefused(t, plain(at)+" "+from+" "+to, p, got, code, want)
}

func checkFunCode(t *testing.T, p []impl.Module, at impl.Place, to string, want int) {
	t.Helper()
	got, code := impl.RenameFun(p, at, to)
	checkRefused(t, plain(at)+" "+to, p, got, code, want)
}

// X is New behind the change, wherever it stands in the clause; all else stays.
func TestRenameVarOfEachKind(t *testing.T) {
	for _, k := range []string{
		"f(X) -> 1.",
		"f(X) -> X.",
		"f(_) -> X = 1.",
		"f(_) -> X = 1, X.",
		"f({X, Y}) -> Y.",
		"f({Y, {a, X, X}}) -> {Y, X}.",
		"f([X | Y]) -> [Y | X].",
		"f([Y | X]) -> [X].",
		"f([_, X, 1, a | []]) -> [1, X, X | []].",
		"f(X) -> {X}.",
		"f(X) -> {1, X, {X, a}}.",
		"f(X) -> X + 1.",
		"f(X) -> 1 - X * (X + 2) < X.",
		"f(X) -> X == X.",
		"f(X) -> f(X).",
		"f(X) -> m:f(X).",
		"f(X) -> put(put({X})).",
		"f(X) -> two(X, f(X)).",
		"f(X) -> X = 1.",
		"f(Y) -> X = Y, Y = X.",
		"f(Y) -> {X, Z} = Y, Z.",
		"f(Y) -> [X | _] = Y = Z = 1, {X, Z}.",
		"f(Y) -> {X = 1, X}, X.",
		"f(X) -> case X of 1 -> 2 end.",
		"f(Y) -> case Y of X -> X end.",
		"f(Y) -> case Y of X -> 1; {X, Y} -> X; _ -> Y end.",
		"f(X) -> case 1 of X -> same; Y -> {Y, X} end, X.",
		"f(Y) -> case Y of 1 -> X = 2, X; 2 -> X = 3, {X} end.",
		"f(Y) -> case Y of 1 -> 2 end, X = 3, X.",
		"f(Y) -> case X = Y of {X, Z} -> Z; X -> X end, X.",
		"f(Y) -> {case Y of 1 -> case Y of X -> [X, case X of {X} -> X end] end end}.",
		"f(X) -> two(case X of Y -> X = Y end, (X = X) + (X = 1)).",
		"f(X) -> x, {new, X}, X1 = XX = Xx = 1, {X1, XX, Xx, X}.",
	} {
		funs := "\nf(A, B) -> X = {A, B}, X.\n" + k + "\ntwo(X, Y) -> {X, Y}.\ng() -> X = 1, f(X)."
		p := alone(t, "f/1", funs)
		want := alone(t, "f/1", strings.Replace(funs, k, wordReplaced(k, "X", "New"), 1))
		got, code := impl.RenameVar(p, place("m", "f", 1, 0), "X", "New")
		checkMade(t, p, got, code, want)
		back, code := impl.RenameVar(got, place("m", "f", 1, 0), "New", "X")
		checkMade(t, got, back, code, p)
	}
}

// wordReplaced puts one word in another's place, where that is a word of its own.
func wordReplaced(text, old, word string) string {
	words, _ := impl.Lex(text)
	list := []string{}
	for _, w := range words {
		switch {
		case w.Kind == impl.TokNumber:
			list = append(list, strconv.Itoa(w.N))
		case w.Text == old:
			list = append(list, word)
		default:
			list = append(list, w.Text)
		}
	}
	return strings.Join(list, " ")
}

// Clauses, functions and modules beside the one that is meant keep their variables of that name.
func TestRenameVarInOneClause(t *testing.T) {
	clauses := []string{"f(X) -> {X, 0}", "f({X, Y}) -> X + Y", "f([X | T]) -> case X of Y -> f(T) end"}
	text := func(at int) string {
		list := slices.Clone(clauses)
		if at >= 0 {
			list[at] = wordReplaced(list[at], "X", "Y2")
		}
		return strings.Join(list, ";\n") + ".\n"
	}
	program := func(at int) []impl.Module {
		return []impl.Module{
			module(t, "a", "f/1", text(-1)),
			module(t, "m", "f/1", "e(X) -> X.\nf() -> X = 1, X.\n"+text(at)+"f(X, Y) -> {X, Y}.\ng(X) -> f(X)."),
			module(t, "z", "f/1", text(-1)),
		}
	}
	p := program(-1)
	for at := range clauses {
		got, code := impl.RenameVar(p, place("m", "f", 1, at), "X", "Y2")
		checkMade(t, p, got, code, program(at))
	}
	checkVarCode(t, p, place("m", "f", 1, 3), "X", "Y2", impl.EdNone)
	checkVarCode(t, p, place("m", "f", 1, -1), "X", "Y2", impl.EdNone)
	// Taken is what the clause itself has, whatever others have.
	got, code := impl.RenameVar(p, place("m", "f", 1, 0), "X", "Y")
	want := roomy(p)
	want[1].Funs[2].Clauses[0] = clause(only(variable("Y")), tuple(variable("Y"), num(0)))
	checkMade(t, p, got, code, want)
	checkVarCode(t, p, place("m", "f", 1, 1), "X", "Y", impl.EdTaken)
	checkVarCode(t, p, place("m", "f", 1, 2), "X", "Y", impl.EdTaken)
	checkVarCode(t, p, place("m", "f", 1, 2), "X", "T", impl.EdTaken)
}

func TestRenameFun(t *testing.T) {
	a := "f(X) -> {f, f(X), g(X), m:f(X), f()}. g(X) -> X. f() -> f. m() -> m:f(m:f(), 1)."
	m := "e() -> f(1). f(0) -> f; f(X) -> f(f(X)), m:f({f(X)}), f(), f(X, f(X)), a:f(X); f({X, Y}) -> case f(X) of f -> [f(Y), m:f(Y) | f(1) + m:f(1)]; _ -> Y = f(Y) end. f() -> a:f(). f(A, B) -> Z = f(A), {Z, m:f(B)}. g(X) -> put(X)."
	z := "f() -> m:f(m:f(1)), a:f(), f(2), m:f(1, 2), m:f(). f(X) -> m:f(X), put(m:f(X)). f2(f) -> f; f2({f, X}) -> case X of {f, Y} -> m:f(Y) end."
	p := []impl.Module{module(t, "a", "f/0, f/1", a), module(t, "m", "e/0, f/0, f/1, f/2, g/1", m), module(t, "z", "f/0, f/1", z)}
	at := place("m", "f", 1, 0)
	for _, clause := range []int{0, 2, 3, -1, math.MaxInt, math.MinInt} {
		at.Clause = clause
		got, code := impl.RenameFun(p, at, "f9")
		checkMade(t, p, got, code, []impl.Module{
			module(t, "a", "f/0, f/1", "f(X) -> {f, f(X), g(X), m:f9(X), f()}. g(X) -> X. f() -> f. m() -> m:f(m:f(), 1)."),
			module(t, "m", "e/0, f/0, f/2, f9/1, g/1", "e() -> f9(1). f9(0) -> f; f9(X) -> f9(f9(X)), m:f9({f9(X)}), f(), f(X, f9(X)), a:f(X); f9({X, Y}) -> case f9(X) of f -> [f9(Y), m:f9(Y) | f9(1) + m:f9(1)]; _ -> Y = f9(Y) end. f() -> a:f(). f(A, B) -> Z = f9(A), {Z, m:f9(B)}. g(X) -> put(X)."),
			module(t, "z", "f/0, f/1", "f() -> m:f9(m:f9(1)), a:f(), f(2), m:f(1, 2), m:f(). f(X) -> m:f9(X), put(m:f9(X)). f2(f) -> f; f2({f, X}) -> case X of {f, Y} -> m:f9(Y) end."),
		})
		back, code := impl.RenameFun(got, place("m", "f9", 1, clause), "f")
		checkMade(t, got, back, code, p)
	}
}

// An atom of the function's name is no call of it, also where it has no parameters.
func TestRenameFunAndAtoms(t *testing.T) {
	p := []impl.Module{module(t, "a", "f/0", "f() -> {f, m:f(), f(), f}."), module(t, "m", "f/0, g/1", "f() -> f, {f, f()}, [f | m:f()], f. g(f) -> case f of f -> f(); {f, _} -> f = f() end; g({f, f}) -> f.")}
	got, code := impl.RenameFun(p, place("m", "f", 0, 0), "h")
	checkMade(t, p, got, code, []impl.Module{module(t, "a", "f/0", "f() -> {f, m:h(), f(), f}."), module(t, "m", "g/1, h/0", "h() -> f, {f, h()}, [f | m:h()], f. g(f) -> case f of f -> h(); {f, _} -> f = h() end; g({f, f}) -> f.")})
}

// The name may be one that another module has, or one with another number of parameters, or the module's own.
func TestRenameFunToNamesOfOthers(t *testing.T) {
	p := []impl.Module{module(t, "a", "g/1, h/1", "g(X) -> m:f(X). h(X) -> g(X), a:g(X), h(X)."), module(t, "m", "f/1", "f(X) -> a:g(X), g(X, X), a:h(f(X)). g(X, Y) -> {X, Y}. g() -> 1.")}
	got, code := impl.RenameFun(p, place("m", "f", 1, 0), "g")
	checkMade(t, p, got, code, []impl.Module{module(t, "a", "g/1, h/1", "g(X) -> m:g(X). h(X) -> g(X), a:g(X), h(X)."), module(t, "m", "g/1", "g(X) -> a:g(X), g(X, X), a:h(g(X)). g(X, Y) -> {X, Y}. g() -> 1.")})
	got, code = impl.RenameFun(p, place("m", "f", 1, 0), "m")
	checkMade(t, p, got, code, []impl.Module{module(t, "a", "g/1, h/1", "g(X) -> m:m(X). h(X) -> g(X), a:g(X), h(X)."), module(t, "m", "m/1", "m(X) -> a:g(X), g(X, X), a:h(m(X)). g(X, Y) -> {X, Y}. g() -> 1.")})
	got, code = impl.RenameFun(p, place("m", "g", 2, 0), "put")
	checkMade(t, p, got, code, []impl.Module{p[0], module(t, "m", "f/1", "f(X) -> a:g(X), put(X, X), a:h(f(X)). put(X, Y) -> {X, Y}. g() -> 1.")})
	got, code = impl.RenameFun(p, place("m", "g", 0, 0), "put")
	checkMade(t, p, got, code, []impl.Module{p[0], module(t, "m", "f/1", "f(X) -> a:g(X), g(X, X), a:h(f(X)). g(X, Y) -> {X, Y}. put() -> 1.")})
	checkFunCode(t, p, place("m", "f", 1, 0), "put", impl.EdTaken)
	checkFunCode(t, p, place("a", "h", 1, 0), "g", impl.EdTaken)
}

// A module's own put/1 may have another name: then its calls are none of put/1 any more, while other modules put out.
func TestRenameOwnPut(t *testing.T) {
	p := []impl.Module{module(t, "a", "f/1", "f(X) -> put(X), m:put(X)."), module(t, "m", "f/1, put/1", "f(X) -> put(X), a:f(X), m:put(put(X)). put(X) -> {own, X}.")}
	at := place("m", "put", 1, 0)
	got, code := impl.RenameFun(p, at, "own")
	checkMade(t, p, got, code, []impl.Module{module(t, "a", "f/1", "f(X) -> put(X), m:own(X)."), module(t, "m", "f/1, own/1", "f(X) -> own(X), a:f(X), m:own(own(X)). own(X) -> {own, X}.")})
	for _, q := range [][]impl.Module{p, got} {
		checkRun(t, q, []impl.Val{numVal(1)}, "ok {own, {own, 1}} >1")
	}
	checkFunCode(t, p, at, "put", impl.EdTaken)
	checkFunCode(t, got, place("m", "own", 1, 0), "put", impl.EdTaken)
	checkFunCode(t, p, place("a", "f", 1, 0), "put", impl.EdTaken)
	checkFunCode(t, p, place("a", "put", 1, 0), "own", impl.EdNone)
}

// Exports are in order behind the change, wherever the new name belongs; Funs stay where they stand.
func TestRenameFunOrder(t *testing.T) {
	p := alone(t, "b/0, b/1, d/0, d/2, f/1", "f(X) -> b(), b(X). d(X, Y) -> d(). d() -> X = 1, f(X). b(X) -> X. b() -> 1. hidden() -> 2.")
	for _, k := range []struct {
		name           string
		arity          int
		to, order, all string
	}{
		{"d", 0, "a", "a/0 b/0 b/1 d/2 f/1", "f/1 d/2 a/0 b/1 b/0 hidden/0"},
		{"d", 0, "c", "b/0 b/1 c/0 d/2 f/1", "f/1 d/2 c/0 b/1 b/0 hidden/0"},
		{"d", 0, "f", "b/0 b/1 d/2 f/0 f/1", "f/1 d/2 f/0 b/1 b/0 hidden/0"},
		{"d", 2, "f", "b/0 b/1 d/0 f/1 f/2", "f/1 f/2 d/0 b/1 b/0 hidden/0"},
		{"d", 2, "b", "b/0 b/1 b/2 d/0 f/1", "f/1 b/2 d/0 b/1 b/0 hidden/0"},
		{"b", 0, "z", "b/1 d/0 d/2 f/1 z/0", "f/1 d/2 d/0 b/1 z/0 hidden/0"},
		{"b", 1, "d", "b/0 d/0 d/1 d/2 f/1", "f/1 d/2 d/0 d/1 b/0 hidden/0"},
		{"f", 1, "a", "a/1 b/0 b/1 d/0 d/2", "a/1 d/2 d/0 b/1 b/0 hidden/0"},
		{"f", 1, "bB", "b/0 b/1 bB/1 d/0 d/2", "bB/1 d/2 d/0 b/1 b/0 hidden/0"},
		{"f", 1, "b_1", "b/0 b/1 b_1/1 d/0 d/2", "b_1/1 d/2 d/0 b/1 b/0 hidden/0"},
		{"hidden", 0, "a", "b/0 b/1 d/0 d/2 f/1", "f/1 d/2 d/0 b/1 b/0 a/0"},
		{"hidden", 0, "f", "b/0 b/1 d/0 d/2 f/1", "f/1 d/2 d/0 b/1 b/0 f/0"},
	} {
		got, code := impl.RenameFun(p, place("m", k.name, k.arity, 0), k.to)
		exports, funs := []string{}, []string{}
		for _, ref := range got[0].Exports {
			exports = append(exports, ref.Name+"/"+strconv.Itoa(ref.Arity))
		}
		for _, f := range got[0].Funs {
			funs = append(funs, f.Name+"/"+strconv.Itoa(f.Arity))
		}
		if code != impl.EdOk || strings.Join(exports, " ") != k.order || strings.Join(funs, " ") != k.all || !impl.Good(got) {
			t.Errorf("%s/%d as %s: %d %v %v", k.name, k.arity, k.to, code, exports, funs)
		}
	}
}

func renameCodes(t *testing.T) (good, loose, other []impl.Module) {
	good = []impl.Module{module(t, "a", "f/1", "f(X) -> m:f(X, 1)."), module(t, "m", "f/2, g/0", "f(X, Y) -> Z = X, g(), Z; f({A, _}, 1) -> A; f(_, _) -> 1. g() -> 1.")}
	loose = roomy(good)
	loose[0].Funs[0].Clauses[0].Body = only(variable("Q"))
	other = []impl.Module{good[1], good[0]}
	return good, loose, other
}

func TestRenameVarCodes(t *testing.T) {
	good, loose, other := renameCodes(t)
	at := place("m", "f", 2, 0)
	for _, p := range [][]impl.Module{loose, other, good[:1], {{}}, {good[0], good[0]}} {
		for _, to := range []string{"New", "new", "Y", "X", ""} {
			checkVarCode(t, p, at, "X", to, impl.EdBad)
			checkVarCode(t, p, at, "Gone", to, impl.EdBad)
			checkVarCode(t, p, place("q", "f", 2, 7), "X", to, impl.EdBad)
		}
	}
	for _, to := range []string{"New", "new", "Y", "X", "", "Z", "A", "Gone"} {
		for _, wrong := range []impl.Place{
			{}, place("q", "f", 2, 0), place("", "f", 2, 0), place("M", "f", 2, 0), place("m", "q", 2, 0), place("m", "", 2, 0), place("m", "put", 1, 0),
			place("m", "f", 1, 0), place("m", "f", 3, 0), place("m", "f", -2, 0), place("a", "f", 2, 0), place("m", "g", 2, 0), place("m", "m", 2, 0),
			place("m", "f", 2, -1), place("m", "f", 2, 3), place("m", "f", 2, 4), place("m", "f", 2, math.MaxInt), place("m", "f", 2, math.MinInt),
			place("m", "f", math.MaxInt, 0), place("m", "f", 1<<32+2, 0), place("m", "f", 2, 1<<32), place("m:f", "f", 2, 0), place("m", "f/2", 2, 0),
			place("m", "f", 2, 1), place("m", "f", 2, 2), place("m", "g", 0, 0),
		} {
			checkVarCode(t, good, wrong, "X", to, impl.EdNone)
		}
		for _, from := range []string{"A", "New", "x", "", "_", "XX", "X ", "f", "g", "m", "\xff", "Q"} {
			checkVarCode(t, good, at, from, to, impl.EdNone)
		}
		checkVarCode(t, nil, at, "X", to, impl.EdNone)
		checkVarCode(t, []impl.Module{}, at, "X", to, impl.EdNone)
	}
	for _, to := range []string{"", "x", "_", "_X", "1", "X Y", "new", "X\n", " X", "Abcdefghijk", "É", "X\xff", "\x00", "X-", "case", "f", strings.Repeat("X", 5000)} {
		checkVarCode(t, good, at, "X", to, impl.EdName)
	}
	for _, to := range []string{"X", "Y", "Z"} {
		checkVarCode(t, good, at, "X", to, impl.EdTaken)
		checkVarCode(t, good, at, "Y", to, impl.EdTaken)
	}
	for _, to := range []string{"A", "X1", "XX", "X_", "Abcdefghij", "Z9_zZ", "B"} {
		if got, code := impl.RenameVar(good, at, "X", to); code != impl.EdOk || sameProgram(got, good) {
			t.Error(to, code)
		}
	}
}

func TestRenameFunCodes(t *testing.T) {
	good, loose, other := renameCodes(t)
	at := place("m", "f", 2, 0)
	for _, p := range [][]impl.Module{loose, other, good[:1], {{}}, {good[0], good[0]}} {
		for _, to := range []string{"new", "New", "f", "g", ""} {
			checkFunCode(t, p, at, to, impl.EdBad)
			checkFunCode(t, p, place("q", "f", 2, 0), to, impl.EdBad)
		}
	}
	for _, to := range []string{"new", "New", "f", "g", "", "put", "case"} {
		for _, wrong := range []impl.Place{
			{}, place("q", "f", 2, 0), place("", "f", 2, 0), place("M", "f", 2, 0), place("m", "q", 2, 0), place("m", "", 2, 0), place("m", "put", 1, 0),
			place("m", "f", 1, 0), place("m", "f", 3, 0), place("m", "f", -2, 0), place("a", "f", 2, 0), place("a", "g", 0, 0), place("m", "g", 1, 0),
			place("m", "f", math.MaxInt, 0), place("m", "f", math.MinInt, 0), place("m", "f", 1<<32+2, 0), place("m:f", "f", 2, 0), place("m", "f/2", 2, 0),
		} {
			checkFunCode(t, good, wrong, to, impl.EdNone)
		}
		checkFunCode(t, nil, at, to, impl.EdNone)
		checkFunCode(t, []impl.Module{}, at, to, impl.EdNone)
	}
	for _, to := range []string{"", "X", "_", "_x", "1", "x y", "New", "x\n", " x", "abcdefghijk", "é", "x\xff", "\x00", "x-", "case", "of", "end", "a:f", "f/2", strings.Repeat("x", 5000)} {
		checkFunCode(t, good, at, to, impl.EdName)
	}
	checkFunCode(t, good, at, "f", impl.EdTaken)
	checkFunCode(t, good, place("m", "g", 0, 0), "g", impl.EdTaken)
	checkFunCode(t, good, place("a", "f", 1, 0), "f", impl.EdTaken)
	checkFunCode(t, good, place("a", "f", 1, 0), "put", impl.EdTaken)
	for _, to := range []string{"g", "put", "abcdefghij", "a", "m", "casex", "x_Z9", "module", "export"} {
		if got, code := impl.RenameFun(good, at, to); code != impl.EdOk || sameProgram(got, good) {
			t.Error(to, code)
		}
	}
}

// Taken are functions that are exported and such as are not, of that arity alone.
func TestRenameFunTaken(t *testing.T) {
	p := []impl.Module{module(t, "a", "b/1", "b(X) -> X. c(X) -> X. d() -> 1."), module(t, "m", "f/1", "f(X) -> X.")}
	at := place("a", "b", 1, 0)
	checkFunCode(t, p, at, "c", impl.EdTaken)
	checkFunCode(t, p, place("a", "c", 1, 0), "b", impl.EdTaken)
	for _, to := range []string{"d", "f", "e"} {
		if _, code := impl.RenameFun(p, at, to); code != impl.EdOk {
			t.Error(to, code)
		}
	}
}

// Nothing is too much for another name: a program that meets every limit takes one.
func TestRenameAtTheLimits(t *testing.T) {
	p := []impl.Module{}
	for i := range 10 {
		p = append(p, fullModule("m"+strconv.Itoa(i)))
	}
	if !impl.Good(p) {
		t.Fatal(problemsText(impl.Check(p)))
	}
	at := place("m9", "f29", 6, 19)
	got, code := impl.RenameVar(p, at, "F", "Abcdefghij")
	if code != impl.EdOk || !impl.Good(got) || sameProgram(got, p) {
		t.Error("variable", code)
	}
	checkAgain(t, p, func(back []impl.Module) ([]impl.Module, int) { return impl.RenameVar(back, at, "Abcdefghij", "F") }, got)
	at = place("m0", "f10", 6, 0)
	got, code = impl.RenameFun(p, at, "zzzzzzzzzz")
	if code != impl.EdOk || !impl.Good(got) || got[0].Exports[19].Name != "zzzzzzzzzz" || got[0].Funs[10].Name != "zzzzzzzzzz" {
		t.Error("function", code)
	}
	checkAgain(t, p, func(back []impl.Module) ([]impl.Module, int) {
		return impl.RenameFun(back, place("m0", "zzzzzzzzzz", 6, 0), "f10")
	}, got)
}

// checkAgain wants the old name again to be the program that was.
func checkAgain(t *testing.T, p []impl.Module, rename func([]impl.Module) ([]impl.Module, int), got []impl.Module) {
	t.Helper()
	if back, code := rename(got); code != impl.EdOk || !sameProgram(back, p) {
		t.Error("the old name again", code)
	}
}

// fullModule has as many functions, exports, clauses, patterns and expressions as there may be, and one as deep as may be.
func fullModule(name string) impl.Module {
	m := impl.Module{Name: name}
	deep := call("m0", "f10", variable("A"), variable("B"), variable("C"), variable("D"), variable("E"), variable("F"))
	for range impl.MaxDeep - 1 {
		deep = tuple(deep)
	}
	pats := []impl.Exp{variable("A"), variable("B"), variable("C"), variable("D"), variable("E"), variable("F")}
	body := slices.Repeat(only(variable("F")), 20)
	body[7] = deep
	for i := range 30 {
		f := impl.Fun{Name: "f" + strconv.Itoa(i), Arity: 6, Clauses: slices.Repeat([]impl.Clause{clause(pats, body...)}, 20)}
		m.Funs = append(m.Funs, f)
		if i >= 10 {
			m.Exports = append(m.Exports, impl.Ref{Name: f.Name, Arity: 6})
		}
	}
	return m
}

func TestVarsAt(t *testing.T) {
	p := []impl.Module{
		module(t, "a", "f/0, gone/0", "f() -> Q, gone(), q:q(). g({X, [Y | _]}) -> 1."),
		module(t, "m", "", "f(B, {A, B}) -> C = A, case C of {D, A} -> E = D, [E | F]; _ -> G = g(H) end; f(_, 1) -> 1, a, [], {1}, f(1, 2); f(Y, X) -> X1 = {Z = 1, Xx = g(Aa9)}, X10 = X_. g(X) -> X + X * X, m:g(X) < put(X). g() -> x."),
	}
	if impl.Good(p) || !impl.ProgramOk(p) {
		t.Fatal("good")
	}
	for _, k := range []struct {
		at   impl.Place
		want string
	}{
		{place("m", "f", 2, 0), "A B C D E F G H"},
		{place("m", "f", 2, 1), ""},
		{place("m", "f", 2, 2), "Aa9 X X1 X10 X_ Xx Y Z"},
		{place("m", "f", 2, 3), ""},
		{place("m", "f", 2, -1), ""},
		{place("m", "f", 2, math.MinInt), ""},
		{place("m", "f", 2, math.MaxInt), ""},
		{place("m", "f", 1, 0), ""},
		{place("m", "f", -1, 0), ""},
		{place("m", "g", 1, 0), "X"},
		{place("m", "g", 0, 0), ""},
		{place("m", "h", 1, 0), ""},
		{place("m", "", 1, 0), ""},
		{place("a", "f", 0, 0), "Q"},
		{place("a", "g", 1, 0), "X Y"},
		{place("a", "gone", 0, 0), ""},
		{place("q", "f", 0, 0), ""},
		{place("", "f", 0, 0), ""},
		{place("\xff", "\x00", 0, 0), ""},
		{impl.Place{}, ""},
	} {
		checkVarsAt(t, p, k.at, k.want)
		checkVarsAt(t, nil, k.at, "")
		for _, wrong := range [][]impl.Module{{p[1], p[0]}, {p[0], p[0]}, {p[1], p[1]}, {{}, p[1]}, {p[1], {}}, {p[0], p[1], endless("z")}} {
			checkVarsAt(t, wrong, k.at, "")
		}
	}
	eleven := append([]impl.Module{}, p[0])
	for i := range 9 {
		eleven = append(eleven, module(t, "b"+strconv.Itoa(i), "", "f(X) -> X."))
	}
	checkVarsAt(t, eleven, place("a", "f", 0, 0), "Q")
	checkVarsAt(t, append(eleven, p[1]), place("a", "f", 0, 0), "")
}

func checkVarsAt(t *testing.T, p []impl.Module, at impl.Place, want string) {
	t.Helper()
	got := impl.VarsAt(p, at)
	if strings.Join(got, " ") != want {
		t.Errorf("%s%+v has %v, not %s", programTextOf(p), at, got, want)
	}
}

func TestCodeText(t *testing.T) {
	for code, want := range []string{"ok", "bad", "none", "name", "taken", "shape", "full"} {
		if got := impl.CodeText(code); got != want {
			t.Errorf("code %d is %q", code, got)
		}
	}
	for _, code := range []int{-1, 7, 8, 100, -7, 1 << 32, 1<<32 + 1, math.MaxInt, math.MinInt} {
		if got := impl.CodeText(code); got != "" {
			t.Errorf("code %d is %q", code, got)
		}
	}
	if got := []int{impl.EdOk, impl.EdBad, impl.EdNone, impl.EdName, impl.EdTaken, impl.EdShape, impl.EdFull}; !slices.Equal(got, []int{0, 1, 2, 3, 4, 5, 6}) {
		t.Error("constants", got)
	}
}

// start is an exported function with values for its parameters.
type start struct {
	mod, name string
	args      []impl.Val
}

// renamed is the same start behind RenameFun.
func (s start) renamed(at impl.Place, to string) start {
	if s.mod == at.Mod && s.name == at.Name && len(s.args) == at.Arity {
		s.name = to
	}
	return s
}

// checkSameRuns wants two programs to do the same with any fuel, and to want the same fuel. It tells how much is just enough; most, where that is not.
func checkSameRuns(t *testing.T, p []impl.Module, a start, q []impl.Module, b start, most int) int {
	t.Helper()
	run := func(fuel int) impl.Result {
		before, after := impl.Run(p, a.mod, a.name, a.args, fuel), impl.Run(q, b.mod, b.name, b.args, fuel)
		if !impl.SameResult(before, after) || before.Code == impl.RunNone {
			t.Fatalf("%sbecomes\n%s%s with %d of fuel is %q, and was %q", programTextOf(p), programTextOf(q), startText(b.mod, b.name, b.args), fuel, impl.ResultText(after), impl.ResultText(before))
		}
		return before
	}
	low, high := 0, most
	for low < high {
		if middle := (low + high) / 2; run(middle).Code == impl.RunFuel {
			low = middle + 1
		} else {
			high = middle
		}
	}
	for _, fuel := range []int{low, max(0, low-1), low + 1, low / 2, 0, 1, 2, 3, most} {
		run(min(fuel, most))
	}
	return low
}

// P7: programs that end, by other names.
func TestOtherNamesDoTheSame(t *testing.T) {
	util := module(t, "util", "map/2, rev/1", "map(dbl, []) -> []; map(dbl, [H | T]) -> [main:dbl(H) | map(dbl, T)]; map(F, L) -> {no, F, L}. rev(L) -> rev(L, []). rev([], Done) -> Done; rev([H | T], Done) -> put(H), util:rev(T), rev(T, [H | Done]).")
	main := module(t, "main", "dbl/1, run/1, sum/1", "run(L) -> R = util:rev(L), M = util:map(dbl, R), S = sum(M), case S of 0 -> none; N -> put({total, N}), {N, main:sum(L), M} end. dbl(X) -> Y = X + X, Y. sum([]) -> 0; sum([H | T]) -> H + sum(T).")
	p := []impl.Module{main, util}
	list := consVal(numVal(3), consVal(numVal(5), nilVal()))
	one := start{"main", "run", []impl.Val{list}}
	starts := []start{one, {"main", "run", []impl.Val{nilVal()}}, {"main", "run", []impl.Val{atomVal("a")}}, {"main", "dbl", []impl.Val{numVal(4)}}, {"main", "dbl", []impl.Val{list}}, {"main", "sum", []impl.Val{list}}, {"util", "rev", []impl.Val{list}}, {"util", "map", []impl.Val{atomVal("dbl"), list}}, {"util", "map", []impl.Val{atomVal("x"), list}}}
	checkRunOf(t, p, one.mod, one.name, one.args, 2000, "ok {16, 8, [10 | [6 | []]]} >3 >5 >5 >{total, 16}")
	changes := 0
	for _, m := range p {
		for _, f := range m.Funs {
			at := place(m.Name, f.Name, f.Arity, -5)
			for _, to := range []string{"new", "a", "zzz", "put", "run", "rev", "map"} {
				got, code := impl.RenameFun(p, at, to)
				if code != impl.EdOk {
					continue
				}
				changes++
				for _, s := range starts {
					checkSameRuns(t, p, s, got, s.renamed(at, to), 2000)
				}
			}
			for at.Clause = range f.Clauses {
				for _, from := range impl.VarsAt(p, at) {
					for _, to := range []string{"New", "A", "Zzz", "L", "H"} {
						got, code := impl.RenameVar(p, at, from, to)
						if code != impl.EdOk {
							continue
						}
						changes++
						for _, s := range starts {
							checkSameRuns(t, p, s, got, s, 2000)
						}
					}
				}
			}
		}
	}
	if changes < 100 {
		t.Error("too few were made", changes)
	}
}

// P7: programs that are made, by other names, one behind the other.
func TestMadeProgramsByOtherNames(t *testing.T) {
	m := newMaker(71)
	told := map[string]int{}
	for range 700 {
		p := m.goodRunnable()
		q := p
		starts, moved := []start{}, []start{}
		for _, mod := range p {
			for _, ref := range mod.Exports {
				starts = append(starts, start{mod.Name, ref.Name, m.vals(ref.Arity, 2)})
			}
		}
		moved = append(moved, starts...)
		for range 6 {
			at := m.placeIn(q)
			var code int
			if vars := impl.VarsAt(q, at); m.Intn(2) == 0 && len(vars) > 0 {
				q, code = impl.RenameVar(q, at, pickOf(m, vars), pickOf(m, varNames))
				told["variable "+impl.CodeText(code)]++
			} else {
				to := pickOf(m, funNames)
				q, code = impl.RenameFun(q, at, to)
				told["function "+impl.CodeText(code)]++
				for i := range moved {
					if code == impl.EdOk {
						moved[i] = moved[i].renamed(at, to)
					}
				}
			}
		}
		for i := range starts {
			enough := checkSameRuns(t, p, starts[i], q, moved[i], 300)
			r := impl.Run(p, starts[i].mod, starts[i].name, starts[i].args, enough)
			told["run "+impl.CodeText(r.Code)]++
			told["out"] += min(1, len(r.Out))
		}
	}
	checkKinds(t, told, 100, "variable ok", "variable taken", "function ok", "function taken", "run ok", "run bad", "run none", "out")
	if told["variable full"]+told["function full"]+told["variable bad"]+told["function bad"] > 0 {
		t.Error("refused", told)
	}
}

// What comes out against the words that a program is shown with.
func TestRenamesAgainstWords(t *testing.T) {
	m := newMaker(72)
	told := map[string]int{}
	for i := range 1500 {
		p := m.goodProgram()
		if i%2 == 0 {
			p = m.goodRunnable()
		}
		if len(p) == 0 {
			continue
		}
		at := m.placeIn(p)
		for _, from := range impl.VarsAt(p, at) {
			to := pickOf(m, varNames)
			got, code := impl.RenameVar(p, at, from, to)
			told["variable "+impl.CodeText(code)]++
			if slices.Contains(impl.VarsAt(p, at), to) {
				checkRefused(t, from+" as "+to, p, got, code, impl.EdTaken)
			} else if text := wordsText(programWords(t, got)); code != impl.EdOk || text != rewordedVar(t, p, at, from, to) {
				t.Fatalf("%s%+v %s as %s is (%d)\n%s", programTextOf(p), at, from, to, code, text)
			} else {
				checkAgain(t, p, func(q []impl.Module) ([]impl.Module, int) { return impl.RenameVar(q, at, to, from) }, got)
			}
		}
		to := pickOf(m, funNames)
		got, code := impl.RenameFun(p, at, to)
		told["function "+impl.CodeText(code)]++
		home := p[slices.IndexFunc(p, func(x impl.Module) bool { return x.Name == at.Mod })]
		if isThere(home, target{"", to, at.Arity}) || to == "put" && at.Arity == 1 {
			checkRefused(t, to, p, got, code, impl.EdTaken)
		} else if text := wordsText(programWords(t, got)); code != impl.EdOk || text != rewordedFun(t, p, at, to) {
			t.Fatalf("%s%+v as %s is (%d)\n%s", programTextOf(p), at, to, code, text)
		} else if at.Name != "put" || at.Arity != 1 {
			back := place(at.Mod, to, at.Arity, 0)
			checkAgain(t, p, func(q []impl.Module) ([]impl.Module, int) { return impl.RenameFun(q, back, at.Name) }, got)
		}
	}
	checkKinds(t, told, 150, "variable ok", "variable taken", "function ok", "function taken")
}

// P7: who calls whom, and what is reached, is the same by the new name.
func TestRenameKeepsTheGraph(t *testing.T) {
	m := newMaker(73)
	for range 500 {
		p := m.goodProgram()
		if len(p) == 0 {
			continue
		}
		at, to := m.placeIn(p), pickOf(m, funNames)
		got, code := impl.RenameFun(p, at, to)
		if code != impl.EdOk {
			continue
		}
		old, fresh := target{at.Mod, at.Name, at.Arity}.text(), target{at.Mod, to, at.Arity}.text()
		named := func(name string) string {
			if name == old {
				return fresh
			}
			return name
		}
		edges := [][2]string{}
		for _, edge := range impl.Graph(p) {
			edges = append(edges, [2]string{named(edge[0]), named(edge[1])})
		}
		slices.SortFunc(edges, func(a, b [2]string) int { return slices.Compare(a[:], b[:]) })
		reached := []string{}
		for _, name := range impl.Reached(p) {
			reached = append(reached, named(name))
		}
		checkGood(t, got, graphText(edges), strings.Join(sortedOnce(reached), " "))
	}
}

// slowVarCode and slowFunCode go through what the document says of each code, in its order.
func slowVarCode(p []impl.Module, at impl.Place, from, to string) int {
	switch vars := impl.VarsAt(p, at); {
	case !impl.Good(p):
		return impl.EdBad
	case !slices.Contains(vars, from):
		return impl.EdNone
	case !impl.VarOk(to):
		return impl.EdName
	case slices.Contains(vars, to):
		return impl.EdTaken
	}
	return impl.EdOk
}

func slowFunCode(p []impl.Module, at impl.Place, to string) int {
	if !impl.Good(p) {
		return impl.EdBad
	}
	for _, m := range p {
		if m.Name != at.Mod || !isThere(m, target{"", at.Name, at.Arity}) {
			continue
		}
		switch {
		case !impl.AtomOk(to):
			return impl.EdName
		case isThere(m, target{"", to, at.Arity}) || to == "put" && at.Arity == 1:
			return impl.EdTaken
		}
		return impl.EdOk
	}
	return impl.EdNone
}

// Any programs, places and names have an answer, and the same one each time.
func TestAnyRenames(t *testing.T) {
	m := newMaker(74)
	told := map[string]int{}
	for i := range 4000 {
		p := m.anyProgram(i)
		at, from := m.oddPlace(p), pickOf(m, oddNames)
		if vars := impl.VarsAt(p, at); m.Intn(4) > 0 && len(vars) > 0 {
			from = pickOf(m, vars)
		}
		to := pickOf(m, [][]string{oddNames, varNames, varNames}[i%3])
		got, code := impl.RenameVar(p, at, from, to)
		told["variable "+impl.CodeText(code)]++
		checkRenamed(t, p, got, code, slowVarCode(p, at, from, to))
		again, _ := impl.RenameVar(p, at, from, to)
		to = pickOf(m, [][]string{oddNames, funNames, funNames}[i%3])
		fun, code := impl.RenameFun(p, at, to)
		told["function "+impl.CodeText(code)]++
		checkRenamed(t, p, fun, code, slowFunCode(p, at, to))
		funAgain, _ := impl.RenameFun(p, at, to)
		if !sameProgram(got, again) || !sameProgram(fun, funAgain) {
			t.Errorf("another answer: %+v %s %s %s", at, from, to, programTextOf(p))
		}
	}
	checkKinds(t, told, 50, "variable ok", "variable bad", "variable none", "variable name", "variable taken", "function ok", "function bad", "function none", "function name", "function taken")
}

func checkRenamed(t *testing.T, p, got []impl.Module, code, want int) {
	t.Helper()
	if code != impl.EdOk || want != impl.EdOk {
		checkRefused(t, "any", p, got, code, want)
	} else if !impl.Good(got) || sameProgram(got, p) {
		t.Errorf("%sbecomes %s", programTextOf(p), programTextOf(got))
	}
}

// spoilings are ways in which a module with a function f(X) is none any more.
func spoilings() map[string]func(*impl.Module) {
	return map[string]func(*impl.Module){
		"no name":         func(m *impl.Module) { m.Name = "" },
		"a great name":    func(m *impl.Module) { m.Name = "M" },
		"no function":     func(m *impl.Module) { m.Funs = nil },
		"empty functions": func(m *impl.Module) { m.Funs = []impl.Fun{} },
		"one twice":       func(m *impl.Module) { m.Funs = append(m.Funs, m.Funs[0]) },
		"no clause":       func(m *impl.Module) { m.Funs[0].Clauses = nil },
		"no body":         func(m *impl.Module) { m.Funs[0].Clauses[0].Body = []impl.Exp{} },
		"a pattern more":  func(m *impl.Module) { m.Funs[0].Clauses[0].Pats = []impl.Exp{anyOne(), variable("X")} },
		"an export twice": func(m *impl.Module) { m.Exports = append(m.Exports, m.Exports[0]) },
		"any in a body":   func(m *impl.Module) { m.Funs[0].Clauses[0].Body[0] = anyOne() },
		"an unknown kind": func(m *impl.Module) {
			m.Funs[0].Clauses[0].Body[0] = impl.Exp{Kind: 99, N: -3, Text: "X", Mod: "a", Kids: []impl.Exp{variable("X"), {}}, Clauses: []impl.Clause{{}, clause(only(variable("X")), variable("X"))}}
		},
		"a name of bytes": func(m *impl.Module) { m.Funs[0].Name = "\xff\x00" },
		"too deep":        func(m *impl.Module) { m.Funs[0].Clauses[0].Body[0] = deepExp(41) },
		"far too deep":    func(m *impl.Module) { m.Funs[0].Clauses[0].Body[0] = deepExp(20000) },
	}
}

// Programs that are none, each wrong in one way.
func TestRenameOfNoProgram(t *testing.T) {
	good := []impl.Module{module(t, "a", "f/1", "f(X) -> X."), module(t, "m", "f/1", "f(X) -> a:f(X)."), module(t, "z", "f/1", "f(X) -> X.")}
	for at := range good {
		for what, spoil := range spoilings() {
			p := roomy(good)
			spoil(&p[at])
			checkUntouched(t, p, func(p []impl.Module) {
				got, code := impl.RenameVar(p, place("m", "f", 1, 0), "X", "New")
				checkBad(t, what, p, got, code)
				got, code = impl.RenameFun(p, place("m", "f", 1, 0), "new")
				checkBad(t, what, p, got, code)
				checkVarsAt(t, p, place("m", "f", 1, 0), "")
			})
		}
	}
}

func deepExp(deep int) impl.Exp {
	e := variable("X")
	for range deep {
		e = tuple(e)
	}
	return e
}

// checkBad asks for Same, for a program may be too deep for its text.
func checkBad(t *testing.T, what string, p, got []impl.Module, code int) {
	t.Helper()
	if code != impl.EdBad || !sameProgram(p, got) {
		t.Errorf("%s: the code is %d, and the program another", what, code)
	}
}

// A list that holds itself has no end; what stands beside the code holds itself as well, in memory of its own.
func TestRenameOfEndlessPrograms(t *testing.T) {
	p := []impl.Module{endless("m"), endless("z")}
	at := place("m", "f", 0, 0)
	byVar, code := impl.RenameVar(p, at, "X", "New")
	checkHoldsItself(t, p, byVar, code)
	byFun, code := impl.RenameFun(p, at, "new")
	checkHoldsItself(t, p, byFun, code)
	checkVarsAt(t, p, at, "")
	cases := impl.Exp{Kind: impl.ExCase, Kids: only(num(1)), Clauses: []impl.Clause{{Pats: only(num(1)), Body: make([]impl.Exp, 2)}}}
	cases.Clauses[0].Body[0], cases.Clauses[0].Body[1] = cases, cases
	p = []impl.Module{bodied(cases)}
	got, code := impl.RenameFun(p, at, "new")
	inner := got[0].Funs[0].Clauses[0].Body[0].Clauses[0].Body
	if code != impl.EdBad || len(inner) != 2 || inner[1].Kind != impl.ExCase || &inner[0] == &cases.Clauses[0].Body[0] {
		t.Error("a case that holds itself", code, len(inner))
	}
	// A list may begin where the one that it stands in begins, and be shorter.
	longer := []impl.Exp{tuple(num(1)), num(2)}
	longer[0].Kids = longer[:1]
	p = []impl.Module{bodied(longer...)}
	p[0].Funs[0].Clauses[0].Body = longer
	got, code = impl.RenameFun(p, at, "new")
	body := got[0].Funs[0].Clauses[0].Body
	if code != impl.EdBad || len(body) != 2 || body[1].N != 2 || len(body[0].Kids) != 1 || len(body[0].Kids[0].Kids) != 1 || &body[0] == &longer[0] || &body[0].Kids[0] == &longer[0] {
		t.Error("a list whose beginning holds itself", code, len(body))
	}
}

func checkHoldsItself(t *testing.T, p, got []impl.Module, code int) {
	t.Helper()
	if code != impl.EdBad || len(got) != len(p) {
		t.Fatal("code", code, len(got))
	}
	for i := range p {
		e := got[i].Funs[0].Clauses[0].Body[0]
		given := p[i].Funs[0].Clauses[0].Body[0]
		for range 1000 {
			if got[i].Name != p[i].Name || e.Kind != impl.ExTuple || len(e.Kids) != 1 || &e.Kids[0] == &given.Kids[0] {
				t.Fatal("another program")
			}
			e = e.Kids[0]
		}
	}
}

// What is answered shares no memory with the arguments, no two lists of it share any, and nothing is written into the arguments.
func TestRenameMemory(t *testing.T) {
	m := newMaker(75)
	for i := range 400 {
		p := m.program([]int{0, 0, 4}[i%3])
		if len(p) == 0 || i%5 == 0 {
			p = []impl.Module{m.oddModule()}
		}
		at := m.oddPlace(p)
		checkUntouched(t, p, func(p []impl.Module) {
			from := append(impl.VarsAt(p, at), "X")[0]
			for _, to := range []string{"New", "new", "X", "f", "put"} {
				byVar, _ := impl.RenameVar(p, at, from, to)
				byFun, _ := impl.RenameFun(p, at, to)
				checkApart(t, [][]impl.Module{byVar, byFun}, p)
				spoilProgram(byVar)
				spoilProgram(byFun)
			}
			vars := impl.VarsAt(p, at)
			checkApart(t, vars, p)
			clear(vars)
		})
	}
}

// A program may hold one list in many places; what is made of it does not.
func TestRenameOfSharedLists(t *testing.T) {
	kids := []impl.Exp{variable("X"), variable("X")}
	body := []impl.Exp{{Kind: impl.ExTuple, Kids: kids}, {Kind: impl.ExTuple, Kids: kids}, {Kind: impl.ExCall, Text: "f", Kids: kids[:1]}}
	c := impl.Clause{Pats: kids[:1], Body: body}
	f := impl.Fun{Name: "f", Arity: 1, Clauses: []impl.Clause{c, c}}
	exports := []impl.Ref{{Name: "f", Arity: 1}}
	p := []impl.Module{{Name: "a", Exports: exports, Funs: []impl.Fun{f}}, {Name: "m", Exports: exports, Funs: []impl.Fun{f}}}
	const kept, renamed = "f(X) -> {X, X}, {X, X}, f(X); f(X) -> {X, X}, {X, X}, f(X).", "f(X) -> {X, X}, {X, X}, f(X); f(New) -> {New, New}, {New, New}, f(New)."
	got, code := impl.RenameVar(p, place("m", "f", 1, 1), "X", "New")
	checkMade(t, p, got, code, []impl.Module{module(t, "a", "f/1", kept), module(t, "m", "f/1", renamed)})
	got, code = impl.RenameFun(p, place("a", "f", 1, 0), "new")
	checkMade(t, p, got, code, []impl.Module{module(t, "a", "new/1", strings.ReplaceAll(kept, "f(", "new(")), module(t, "m", "f/1", kept)})
	checkVarCode(t, p, place("m", "f", 1, 1), "X", "X", impl.EdTaken)
	checkFunCode(t, p, place("a", "f", 1, 0), "f", impl.EdTaken)
}

// spoilProgram writes into all that is answered.
func spoilProgram(p []impl.Module) {
	for i := range p {
		clear(p[i].Exports)
		for j := range p[i].Funs {
			spoilClauses(p[i].Funs[j].Clauses)
		}
		clear(p[i].Funs)
	}
	clear(p)
}

func spoilClauses(list []impl.Clause) {
	for i := range list {
		spoilExps(list[i].Pats)
		spoilExps(list[i].Body)
	}
	clear(list)
}

func spoilExps(list []impl.Exp) {
	for i := range list {
		spoilExps(list[i].Kids)
		spoilClauses(list[i].Clauses)
	}
	clear(list)
}

// Nothing is kept: changes beside one another do not see each other.
func TestRenamesApart(t *testing.T) {
	p := []impl.Module{module(t, "a", "f/1", "f(X) -> m:f(X)."), module(t, "m", "f/1, g/1", "f(X) -> g(X), a:f(X). g(X) -> f(X).")}
	names := []string{"h", "i", "j", "k", "l", "o", "q", "r"}
	told := checkAlongside(t, len(names), func(i int) string {
		byFun, _ := impl.RenameFun(p, place("m", "f", 1, 0), names[i])
		byVar, _ := impl.RenameVar(byFun, place("m", names[i], 1, 0), "X", strings.ToUpper(names[i]))
		return programTextOf(byVar)
	})
	if told[0] != "-module(a).\n-export([f/1]).\nf(X) -> m:h(X).\n-module(m).\n-export([g/1, h/1]).\nh(H) -> g(H), a:f(H).\ng(X) -> h(X).\n" {
		t.Error("changes", told)
	}
}

// checkAlongside wants the answers of calls beside one another to be those of calls behind one another, which it tells.
func checkAlongside(t *testing.T, count int, answer func(i int) string) []string {
	t.Helper()
	got, want := make([]string, count), make([]string, count)
	for i := range want {
		want[i] = answer(i)
	}
	wait := sync.WaitGroup{}
	for i := range got {
		wait.Go(func() { got[i] = answer(i) })
	}
	wait.Wait()
	if !slices.Equal(got, want) {
		t.Error("beside one another they are", got, "and not", want)
	}
	return want
}
