package tests

import (
	"reflect"
	"slices"
	"strconv"
	"strings"
	"testing"

	"loop.example/g00377/impl"
)

// module reads one from its name, its exports and its functions.
func module(t *testing.T, name, exports, funs string) impl.Module {
	t.Helper()
	return parsed(t, "-module("+name+").\n-export(["+exports+"]).\n"+funs+"\n")
}

func alone(t *testing.T, exports, funs string) []impl.Module {
	t.Helper()
	return []impl.Module{module(t, "m", exports, funs)}
}

func problemsText(list []impl.Problem) string {
	texts := []string{}
	for _, q := range list {
		texts = append(texts, impl.ProblemText(q))
	}
	return strings.Join(texts, "; ")
}

func graphText(list [][2]string) string {
	texts := []string{}
	for _, edge := range list {
		texts = append(texts, edge[0]+">"+edge[1])
	}
	return strings.Join(texts, " ")
}

// checkProblems wants a program that is one, with these problems; where there are any, nothing else is told of it.
func checkProblems(t *testing.T, p []impl.Module, want string) {
	t.Helper()
	if got := problemsText(impl.Check(p)); got != want {
		t.Errorf("%sthe problems are %q, not %q", programTextOf(p), got, want)
	}
	if !impl.ProgramOk(p) || impl.Good(p) != (want == "") {
		t.Errorf("%sProgramOk is %v, and Good %v", programTextOf(p), impl.ProgramOk(p), impl.Good(p))
	}
	if want != "" && (len(impl.Graph(p)) != 0 || len(impl.Reached(p)) != 0) {
		t.Errorf("%sthe graph is %v, and reached are %v", programTextOf(p), impl.Graph(p), impl.Reached(p))
	}
}

func checkGood(t *testing.T, p []impl.Module, graph, reached string) {
	t.Helper()
	checkProblems(t, p, "")
	if got := graphText(impl.Graph(p)); got != graph {
		t.Errorf("%sthe graph is %q, not %q", programTextOf(p), got, graph)
	}
	if got := strings.Join(impl.Reached(p), " "); got != reached {
		t.Errorf("%sreached are %q, not %q", programTextOf(p), got, reached)
	}
}

func checkNoProgram(t *testing.T, what string, p []impl.Module) {
	t.Helper()
	if impl.ProgramOk(p) || impl.Good(p) || len(impl.Check(p)) != 0 || len(impl.Graph(p)) != 0 || len(impl.Reached(p)) != 0 {
		t.Errorf("%s: %v %v %v %v %v", what, impl.ProgramOk(p), impl.Good(p), impl.Check(p), impl.Graph(p), impl.Reached(p))
	}
}

func TestProgramsOfOneModule(t *testing.T) {
	for _, k := range []struct{ exports, funs, graph, reached string }{
		{"", "f() -> 1.", "", ""},
		{"f/0", "f() -> 1.", "", "m:f/0"},
		{"", "f() -> f().", "m:f/0>m:f/0", ""},
		{"f/0", "f() -> f().", "m:f/0>m:f/0", "m:f/0"},
		{"f/0", "f() -> g(). g() -> 1.", "m:f/0>m:g/0", "m:f/0 m:g/0"},
		{"g/0", "f() -> g(). g() -> 1.", "m:f/0>m:g/0", "m:g/0"},
		{"", "f() -> g(). g() -> f().", "m:f/0>m:g/0 m:g/0>m:f/0", ""},
		{"f/0", "f() -> g(). g() -> f().", "m:f/0>m:g/0 m:g/0>m:f/0", "m:f/0 m:g/0"},
		{"f/0", "f() -> f(1). f(X) -> f(X, 2). f(X, Y) -> X + Y.", "m:f/0>m:f/1 m:f/1>m:f/2", "m:f/0 m:f/1 m:f/2"},
		{"f/1", "f() -> f(1). f(X) -> f(X, 2). f(X, Y) -> X + Y.", "m:f/0>m:f/1 m:f/1>m:f/2", "m:f/1 m:f/2"},
		{"f/0", "f() -> m:f().", "m:f/0>m:f/0", "m:f/0"},
		{"f/0, g/0", "f() -> g(), m:g(). g() -> 1.", "m:f/0>m:g/0", "m:f/0 m:g/0"},
		{"f/0", "f() -> put(1).", "", "m:f/0"},
		{"f/1", "f(X) -> case g(X) of Y -> h(Y); _ -> X = k() end. g(X) -> X. h(X) -> X. k() -> 1. l() -> k().",
			"m:f/1>m:g/1 m:f/1>m:h/1 m:f/1>m:k/0 m:l/0>m:k/0", "m:f/1 m:g/1 m:h/1 m:k/0"},
		{"f/1", "f(0) -> 1; f(X) -> g(X); f(X) -> h(X). g(X) -> X. h(X) -> X.", "m:f/1>m:g/1 m:f/1>m:h/1", "m:f/1 m:g/1 m:h/1"},
		{"f/1", "f(X) -> {g([h(X) | k()])} == X, 1 + l(). g(X) -> X. h(X) -> X. k() -> 1. l() -> k().",
			"m:f/1>m:g/1 m:f/1>m:h/1 m:f/1>m:k/0 m:f/1>m:l/0 m:l/0>m:k/0", "m:f/1 m:g/1 m:h/1 m:k/0 m:l/0"},
	} {
		checkGood(t, alone(t, k.exports, k.funs), k.graph, k.reached)
	}
}

func TestProgramsOfSeveralModules(t *testing.T) {
	a := module(t, "a", "f/1, g/0", "f(X) -> b:f(X), h(X). h(X) -> put(X). g() -> 1. u() -> b:f(1).")
	b := module(t, "b", "f/1", "f(X) -> h(X), a:g(). h(X) -> X. u(X) -> a:f(X).")
	c := module(t, "c", "", "f() -> a:f(1), b:f(2).")
	checkGood(t, []impl.Module{a, b},
		"a:f/1>a:h/1 a:f/1>b:f/1 a:u/0>b:f/1 b:f/1>a:g/0 b:f/1>b:h/1 b:u/1>a:f/1",
		"a:f/1 a:g/0 a:h/1 b:f/1 b:h/1")
	checkGood(t, []impl.Module{a, b, c},
		"a:f/1>a:h/1 a:f/1>b:f/1 a:u/0>b:f/1 b:f/1>a:g/0 b:f/1>b:h/1 b:u/1>a:f/1 c:f/0>a:f/1 c:f/0>b:f/1",
		"a:f/1 a:g/0 a:h/1 b:f/1 b:h/1")
	checkProblems(t, []impl.Module{a}, "a:f/1 far; a:u/0 far")
	checkProblems(t, []impl.Module{b}, "b:f/1 far; b:u/1 far")
	checkProblems(t, []impl.Module{a, c}, "a:f/1 far; a:u/0 far; c:f/0 far")
	checkGood(t, nil, "", "")
	checkGood(t, []impl.Module{}, "", "")
}

// The words of Problem are the module's, the function's (or the export's) and the code.
func TestProblemsHaveTheirParts(t *testing.T) {
	p := []impl.Module{module(t, "ab", "e/6", "f(X, _) -> Y, g(X), m:h().")}
	want := []impl.Problem{
		{Mod: "ab", Name: "e", Arity: 6, Code: "export"},
		{Mod: "ab", Name: "f", Arity: 2, Code: "loose"},
		{Mod: "ab", Name: "f", Arity: 2, Code: "call"},
		{Mod: "ab", Name: "f", Arity: 2, Code: "far"},
	}
	if got := impl.Check(p); !slices.Equal(got, want) {
		t.Error(got)
	}
}

func TestProblemsOfEachCode(t *testing.T) {
	for _, k := range []struct{ exports, funs, want string }{
		{"g/0", "f() -> 1.", "m:g/0 export"},
		{"f/1", "f() -> 1.", "m:f/1 export"},
		{"a/0, f/0, f/1, f/2, g/0", "f(X) -> X. f() -> 1.", "m:a/0 export; m:f/2 export; m:g/0 export"},
		{"put/1", "f() -> 1.", "m:put/1 export"},
		{"", "f() -> X.", "m:f/0 loose"},
		{"", "f() -> 1. g() -> X. h(Y) -> {X, Y}, Z; h(Y) -> X.", "m:g/0 loose; m:h/1 loose"},
		{"", "f() -> g().", "m:f/0 call"},
		{"", "f() -> f(1).", "m:f/0 call"},
		{"", "f() -> 1. g() -> f(1), f(), f(2). h() -> g(1).", "m:g/0 call; m:h/0 call"},
		{"f/0", "f() -> a:f().", "m:f/0 far"},
		{"f/0", "f() -> m:f(1), g(). g() -> m:g(). h() -> m:f().", "m:f/0 far; m:g/0 far"},
	} {
		checkProblems(t, alone(t, k.exports, k.funs), k.want)
	}
}

// Each kind of problem stands once for a function, however many calls there are.
func TestEachKindOfProblemOnce(t *testing.T) {
	for _, k := range []struct{ funs, want string }{
		{"f() -> g(), h(), g(1), f(2).", "m:f/0 call"},
		{"f() -> a:g(), b:h(), a:g(1), m:f(2).", "m:f/0 far"},
		{"f() -> g(), a:h(), h(), b:h().", "m:f/0 call; m:f/0 far"},
		{"f() -> a:h(), g(), h(), b:h().", "m:f/0 far; m:f/0 call"},
		{"f(1) -> g(); f(2) -> h(); f(X) -> Y, X; f(_) -> Y, a:h().", "m:f/1 loose; m:f/1 call; m:f/1 far"},
		{"f() -> g(). f(X) -> g(). g(X) -> g().", "m:f/0 call; m:f/1 call; m:g/1 call"},
	} {
		checkProblems(t, alone(t, "", k.funs), k.want)
	}
}

func TestOrderOfProblems(t *testing.T) {
	for _, k := range []struct{ exports, funs, want string }{
		{"y/0, z/0", "f() -> g(), X.", "m:y/0 export; m:z/0 export; m:f/0 loose; m:f/0 call"},
		{"", "f() -> a:g(), h(X).", "m:f/0 loose; m:f/0 far; m:f/0 call"},
		{"", "z() -> g(). a() -> a:g(). m() -> X.", "m:z/0 call; m:a/0 far; m:m/0 loose"},
		// A call stands ahead of what is within it, and kids in their order.
		{"", "f() -> g(a:h()).", "m:f/0 call; m:f/0 far"},
		{"", "f() -> a:h(g()).", "m:f/0 far; m:f/0 call"},
		{"", "f() -> {[1, a:h()], g()}.", "m:f/0 far; m:f/0 call"},
		{"", "f() -> put(g()) + put(a:h()).", "m:f/0 call; m:f/0 far"},
		{"", "f() -> [{g()} | a:h()].", "m:f/0 call; m:f/0 far"},
		{"", "f() -> X = {g(), a:h()}.", "m:f/0 call; m:f/0 far"},
		// Expression by expression, and clause by clause.
		{"", "f() -> {{{g()}}}, a:h().", "m:f/0 call; m:f/0 far"},
		{"", "f() -> {{{a:h()}}}, g().", "m:f/0 far; m:f/0 call"},
		{"", "f(1) -> 1, {a:h()}; f(2) -> g().", "m:f/1 far; m:f/1 call"},
		{"", "f(1) -> 1, {g()}; f(2) -> a:h().", "m:f/1 call; m:f/1 far"},
		// Of a case its kid ahead of its clauses, and these in their order.
		{"", "f() -> case a:h() of _ -> g() end.", "m:f/0 far; m:f/0 call"},
		{"", "f() -> case g() of _ -> a:h() end.", "m:f/0 call; m:f/0 far"},
		{"", "f() -> case {1, {a:h()}} of _ -> g() end.", "m:f/0 far; m:f/0 call"},
		{"", "f() -> case 1 of 1 -> a:h(); _ -> g() end.", "m:f/0 far; m:f/0 call"},
		{"", "f() -> case 1 of 1 -> 2, g(); _ -> a:h() end.", "m:f/0 call; m:f/0 far"},
		{"", "f() -> {case 1 of _ -> a:h() end, g()}.", "m:f/0 far; m:f/0 call"},
	} {
		checkProblems(t, alone(t, k.exports, k.funs), k.want)
	}
	a := module(t, "a", "z/0", "g() -> b:h(). f() -> Y.")
	b := module(t, "b", "a/1, b/0", "h() -> X. f() -> b:h(), f(1).")
	checkProblems(t, []impl.Module{a, b}, "a:z/0 export; a:g/0 far; a:f/0 loose; b:a/1 export; b:b/0 export; b:h/0 loose; b:f/0 far; b:f/0 call")
}

func TestCallsOfPut(t *testing.T) {
	for _, k := range []struct{ exports, funs, want string }{
		{"", "f() -> put(1).", ""},
		{"", "f() -> put(put(put(1))).", ""},
		{"", "f() -> put().", "m:f/0 call"},
		{"", "f() -> put(1, 2).", "m:f/0 call"},
		{"", "f() -> put(1), put(1, 2). put() -> 1.", "m:f/0 call"},
		{"", "f() -> put(), put(1), put(1, 2). put() -> 1. put(X, Y) -> X + Y.", ""},
		{"", "f() -> put(1). put(X) -> X.", ""},
		{"", "f() -> m:put(1).", "m:f/0 far"},
		{"put/1", "f() -> m:put(1).", "m:put/1 export; m:f/0 far"},
		{"", "f() -> m:put(1). put(X) -> X.", "m:f/0 far"},
		{"put/1", "f() -> m:put(1). put(X) -> X.", ""},
		{"", "put() -> put(1).", ""},
		{"", "put() -> put(1, 2).", "m:put/0 call"},
		{"", "f() -> puts(1), Put = put, Put.", "m:f/0 call"},
	} {
		checkProblems(t, alone(t, k.exports, k.funs), k.want)
	}
}

// put/1 is a function like others where the module has it, and nobody's where it has not.
func TestGraphOfPut(t *testing.T) {
	checkGood(t, alone(t, "f/0", "f() -> put(1), put(). put() -> 1."), "m:f/0>m:put/0", "m:f/0 m:put/0")
	checkGood(t, alone(t, "f/0", "f() -> put(1). put(X) -> g(). g() -> 1."), "m:f/0>m:put/1 m:put/1>m:g/0", "m:f/0 m:g/0 m:put/1")
	checkGood(t, alone(t, "f/0", "f() -> 1. put(X) -> put(X)."), "m:put/1>m:put/1", "m:f/0")
	checkGood(t, alone(t, "put/1", "f() -> m:put(1). put(X) -> X."), "m:f/0>m:put/1", "m:put/1")
	// What another module has is not meant without its name.
	a := module(t, "a", "f/0", "f() -> put(1).")
	b := module(t, "b", "put/1", "put(X) -> X. g() -> put(1).")
	c := module(t, "c", "f/0", "f() -> b:put(put(1)).")
	checkGood(t, []impl.Module{a, b, c}, "b:g/0>b:put/1 c:f/0>b:put/1", "a:f/0 b:put/1 c:f/0")
	checkProblems(t, []impl.Module{b, module(t, "c", "", "f() -> a:put(1).")}, "c:f/0 far")
}

func TestCallsWithAModulesName(t *testing.T) {
	b := module(t, "b", "gone/0, open/1", "open(X) -> X. shut(X) -> X. open() -> 1.")
	for _, k := range []struct{ call, want string }{
		{"b:open(1)", ""},
		{"b:shut(1)", "a:f/0 far; "},
		{"b:open()", "a:f/0 far; "},
		{"b:gone()", "a:f/0 far; "},
		{"b:never()", "a:f/0 far; "},
		{"c:open(1)", "a:f/0 far; "},
		{"open(1)", "a:f/0 call; "},
		{"a:f()", "a:f/0 far; "},
		{"a:g()", ""},
		{"a:open(1)", "a:f/0 far; "},
		{"f()", ""},
	} {
		a := module(t, "a", "g/0", "f() -> "+k.call+". g() -> 1.")
		checkProblems(t, []impl.Module{a, b}, k.want+"b:gone/0 export")
	}
	// The other module is found wherever it stands, and by its whole name.
	ab := module(t, "ab", "f/0", "f() -> 1.")
	for _, k := range []struct{ name, call, want string }{
		{"a", "ab:f()", ""},
		{"b", "ab:f()", ""},
		{"a", "b:f()", "a:g/0 far"},
		{"b", "a:f()", "b:g/0 far"},
		{"abc", "abc:f()", "abc:g/0 far"},
	} {
		p := []impl.Module{module(t, k.name, "", "g() -> "+k.call+"."), ab}
		slices.SortFunc(p, func(x, y impl.Module) int { return strings.Compare(x.Name, y.Name) })
		checkProblems(t, p, k.want)
	}
}

func TestCallsByTheModulesOwnName(t *testing.T) {
	checkGood(t, alone(t, "f/0", "f() -> 1. g() -> m:f()."), "m:g/0>m:f/0", "m:f/0")
	checkProblems(t, alone(t, "f/0", "f() -> 1. g() -> m:g()."), "m:g/0 far")
	checkProblems(t, alone(t, "f/0", "f() -> 1. g() -> m:h()."), "m:g/0 far")
	checkProblems(t, alone(t, "f/0, h/0", "f() -> 1. g() -> m:h()."), "m:h/0 export; m:g/0 far")
}

// By both, as texts: 1 and / stand ahead of the colon and of letters, great letters ahead of small ones.
func TestOrderOfGraphAndReached(t *testing.T) {
	checkGood(t, alone(t, "z/0", "z() -> b(), a(), z(), b(), a1(), aB(), ab(), a(1). b() -> z(), a(). a() -> 1. a1() -> 1. aB() -> 1. ab() -> 1. a(X) -> X."),
		"m:b/0>m:a/0 m:b/0>m:z/0 m:z/0>m:a/0 m:z/0>m:a/1 m:z/0>m:a1/0 m:z/0>m:aB/0 m:z/0>m:ab/0 m:z/0>m:b/0 m:z/0>m:z/0",
		"m:a/0 m:a/1 m:a1/0 m:aB/0 m:ab/0 m:b/0 m:z/0")
	a := module(t, "a", "f/0", "f() -> aB:f(), a1:f(), g(). g() -> 1.")
	a1 := module(t, "a1", "f/0", "f() -> a:f(), aB:f(), a1:f().")
	aB := module(t, "aB", "f/0", "f() -> 1.")
	checkGood(t, []impl.Module{a, a1, aB},
		"a1:f/0>a1:f/0 a1:f/0>a:f/0 a1:f/0>aB:f/0 a:f/0>a1:f/0 a:f/0>a:g/0 a:f/0>aB:f/0",
		"a1:f/0 a:f/0 a:g/0 aB:f/0")
}

func TestGraphTellsEachOnce(t *testing.T) {
	checkGood(t, alone(t, "f/0, g/1", "f() -> g(1), {g(g(2)), m:g(3)}, case g(4) of _ -> g(5); _ -> m:g(6) end. g(1) -> f(); g(_) -> f(), m:f()."),
		"m:f/0>m:g/1 m:g/1>m:f/0", "m:f/0 m:g/1")
}

func TestReachedRoundACircle(t *testing.T) {
	funs := "a() -> b(). b() -> c(). c() -> a(). x() -> y(). y() -> x(), a(). alone() -> alone(). never() -> 1."
	graph := "m:a/0>m:b/0 m:alone/0>m:alone/0 m:b/0>m:c/0 m:c/0>m:a/0 m:x/0>m:y/0 m:y/0>m:a/0 m:y/0>m:x/0"
	checkGood(t, alone(t, "", funs), graph, "")
	checkGood(t, alone(t, "b/0", funs), graph, "m:a/0 m:b/0 m:c/0")
	checkGood(t, alone(t, "x/0", funs), graph, "m:a/0 m:b/0 m:c/0 m:x/0 m:y/0")
	checkGood(t, alone(t, "alone/0, never/0", funs), graph, "m:alone/0 m:never/0")
	a := module(t, "a", "f/0", "f() -> b:f(). g() -> f().")
	b := module(t, "b", "f/0", "f() -> g(). g() -> c:f().")
	c := module(t, "c", "f/0", "f() -> a:f(). g() -> h(). h() -> g().")
	checkGood(t, []impl.Module{a, b, c}, "a:f/0>b:f/0 a:g/0>a:f/0 b:f/0>b:g/0 b:g/0>c:f/0 c:f/0>a:f/0 c:g/0>c:h/0 c:h/0>c:g/0",
		"a:f/0 b:f/0 b:g/0 c:f/0")
}

// What is reached last may stand first, and what is reached first last.
func TestReachedFarAway(t *testing.T) {
	for _, down := range []bool{false, true} {
		p := chain(10, 30, down)
		if !impl.Good(p) {
			t.Fatal(problemsText(impl.Check(p)))
		}
		if got := impl.Reached(p); len(got) != 300 || len(impl.Graph(p)) != 299 {
			t.Error(down, len(got), len(impl.Graph(p)))
		} else {
			checkAscending(t, got)
		}
	}
}

// chain has functions each of which calls the next one, of the next module where there is none; or the one ahead.
func chain(mods, funs int, down bool) []impl.Module {
	name := func(at int) (string, string) {
		return "m" + strconv.Itoa(at/funs), "f" + strconv.Itoa(10+at%funs)
	}
	p := []impl.Module{}
	for at := range mods * funs {
		mod, fun := name(at)
		if at%funs == 0 {
			p = append(p, impl.Module{Name: mod})
		}
		m := &p[len(p)-1]
		body, next, first := num(1), at+1, 0
		if down {
			next, first = at-1, funs-1
		}
		if next >= 0 && next < mods*funs {
			far, called := name(next)
			if far == mod {
				far = ""
			}
			body = call(far, called)
		}
		if at%funs == first {
			m.Exports = append(m.Exports, impl.Ref{Name: fun})
		}
		m.Funs = append(m.Funs, impl.Fun{Name: fun, Clauses: []impl.Clause{clause(nil, body)}})
	}
	return p
}

func TestHowManyModules(t *testing.T) {
	p := chain(10, 1, false)
	checkProblems(t, p, "")
	checkNoProgram(t, "11 modules", append(slices.Clone(p), module(t, "z", "", "f() -> 1.")))
	checkNoProgram(t, "11 modules, one of which has a problem", append(slices.Clone(p), module(t, "z", "", "f() -> X.")))
	checkProblems(t, append(slices.Clone(p[:9]), module(t, "z", "", "f() -> X.")), "m8:f10/0 far; z:f/0 loose")
	for n := range 11 {
		if !impl.ProgramOk(p[:n]) {
			t.Error(n, "modules are no program")
		}
	}
}

func TestNoPrograms(t *testing.T) {
	a, b, c := module(t, "a", "", "f() -> X."), module(t, "b", "f/0", "f() -> g()."), module(t, "c", "z/0", "f() -> 1.")
	checkProblems(t, []impl.Module{a, b, c}, "a:f/0 loose; b:f/0 call; c:z/0 export")
	checkNoProgram(t, "descending", []impl.Module{b, a})
	checkNoProgram(t, "not ascending at the end", []impl.Module{a, c, b})
	checkNoProgram(t, "not ascending at the beginning", []impl.Module{b, a, c})
	checkNoProgram(t, "two alike", []impl.Module{a, a})
	checkNoProgram(t, "two of one name", []impl.Module{a, module(t, "a", "", "g() -> 1.")})
	checkNoProgram(t, "two of one name at the end", []impl.Module{a, b, b})
	checkNoProgram(t, "aB ahead of a1", []impl.Module{module(t, "aB", "", "f() -> 1."), module(t, "a1", "", "f() -> 1.")})
	checkNoProgram(t, "the zero value", []impl.Module{{}})
	checkNoProgram(t, "the zero value and another", []impl.Module{{}, a})
}

// One module that is not ModuleOk spoils all, wherever it stands.
func TestProgramsWithWrongModules(t *testing.T) {
	bad := map[string]func(m *impl.Module){
		"no name":      func(m *impl.Module) { m.Name = "" },
		"a great name": func(m *impl.Module) { m.Name = "B" },
		"a long name":  func(m *impl.Module) { m.Name = "bbbbbbbbbbb" },
		"arity":        func(m *impl.Module) { m.Exports = []impl.Ref{{Name: "f", Arity: 7}} },
		"exports":      func(m *impl.Module) { m.Exports = []impl.Ref{{Name: "f"}, {Name: "f"}} },
		"no function":  func(m *impl.Module) { m.Funs = nil },
		"twice":        func(m *impl.Module) { m.Funs = append(m.Funs, m.Funs[0]) },
		"no clause":    func(m *impl.Module) { m.Funs[0].Clauses = nil },
		"patterns":     func(m *impl.Module) { m.Funs[0].Arity = 1 },
		"no body":      func(m *impl.Module) { m.Funs[0].Clauses[0].Body = nil },
		"any":          func(m *impl.Module) { m.Funs[0].Clauses[0].Body[0] = anyOne() },
		"kind 11":      func(m *impl.Module) { m.Funs[0].Clauses[0].Body[0].Kind = 11 },
		"a call of seven": func(m *impl.Module) {
			m.Funs[0].Clauses[0].Body[0] = call("", "f", num(1), num(1), num(1), num(1), num(1), num(1), num(1))
		},
		"a call of no atom":      func(m *impl.Module) { m.Funs[0].Clauses[0].Body[0] = call("", "F") },
		"a call in no module":    func(m *impl.Module) { m.Funs[0].Clauses[0].Body[0] = call("M", "f") },
		"a call for a pattern":   func(m *impl.Module) { m.Funs[0].Clauses[0].Body[0] = match(call("", "f"), num(1)) },
		"one that holds itself":  func(m *impl.Module) { *m = endless(m.Name) },
		"a number out of limits": func(m *impl.Module) { m.Funs[0].Clauses[0].Body[0] = num(-1) },
	}
	good := []impl.Module{module(t, "a", "f/0", "f() -> f()."), module(t, "b", "f/0", "f() -> a:f()."), module(t, "c", "f/0", "f() -> b:f().")}
	checkProblems(t, good, "")
	for what, spoil := range bad {
		for at := range good {
			p := roomy(good)
			spoil(&p[at])
			checkNoProgram(t, what+" at "+strconv.Itoa(at), p)
			checkNoProgram(t, what+" alone", p[at:at+1])
		}
	}
}

func endless(name string) impl.Module {
	body := []impl.Exp{{Kind: impl.ExTuple, Kids: make([]impl.Exp, 1)}}
	body[0].Kids[0] = body[0]
	return impl.Module{Name: name, Funs: []impl.Fun{{Name: "f", Clauses: []impl.Clause{clause(nil, body...)}}}}
}

func TestProblemText(t *testing.T) {
	for _, k := range []struct {
		problem impl.Problem
		want    string
	}{
		{impl.Problem{Mod: "a", Name: "f", Arity: 1, Code: "loose"}, "a:f/1 loose"},
		{impl.Problem{}, ":/0 "},
		{impl.Problem{Mod: "m"}, "m:/0 "},
		{impl.Problem{Code: "far"}, ":/0 far"},
		{impl.Problem{Mod: "A:b", Name: "/ ", Arity: -1, Code: "no\ncode"}, "A:b:/ /-1 no\ncode"},
		{impl.Problem{Mod: "\xff", Name: "\x00", Arity: 1 << 62, Code: " "}, "\xff:\x00/4611686018427387904  "},
		{impl.Problem{Mod: "m", Name: "f", Arity: -1 << 63, Code: "call"}, "m:f/-9223372036854775808 call"},
		{impl.Problem{Mod: "m", Name: "f", Arity: 1<<63 - 1, Code: "ok"}, "m:f/9223372036854775807 ok"},
	} {
		if got := impl.ProblemText(k.problem); got != k.want {
			t.Errorf("%+v is told as %q", k.problem, got)
		}
	}
}

func isThere(m impl.Module, to target) bool {
	return slices.ContainsFunc(m.Funs, func(f impl.Fun) bool { return f.Name == to.name && f.Arity == to.arity })
}

// goesTo tells which function a call in a module goes to, if any; put/1 goes to none.
func goesTo(p []impl.Module, in impl.Module, to target) (target, bool) {
	if to.mod == "" {
		return target{in.Name, to.name, to.arity}, isThere(in, to)
	}
	for _, m := range p {
		if m.Name == to.mod {
			return to, isThere(m, to) && slices.Contains(m.Exports, impl.Ref{Name: to.name, Arity: to.arity})
		}
	}
	return to, false
}

// callsOf tells the calls of a function by the words that it is shown with.
func callsOf(t *testing.T, f impl.Fun) []target {
	t.Helper()
	list := []target{}
	for _, c := range f.Clauses {
		for _, e := range c.Body {
			list = append(list, targetsOf(bodyWords(t, e))...)
		}
	}
	return list
}

func slowProblems(t *testing.T, p []impl.Module) string {
	list := []string{}
	for _, m := range p {
		for _, ref := range m.Exports {
			if to := (target{m.Name, ref.Name, ref.Arity}); !isThere(m, to) {
				list = append(list, to.text()+" export")
			}
		}
		for _, f := range m.Funs {
			name := target{m.Name, f.Name, f.Arity}.text()
			if slices.ContainsFunc(f.Clauses, func(c impl.Clause) bool { return len(slowClauseFree(c)) > 0 }) {
				list = append(list, name+" loose")
			}
			for _, to := range callsOf(t, f) {
				text := name + " call"
				if to.mod != "" {
					text = name + " far"
				}
				_, ok := goesTo(p, m, to)
				if !ok && to != (target{"", "put", 1}) && !slices.Contains(list, text) {
					list = append(list, text)
				}
			}
		}
	}
	return strings.Join(list, "; ")
}

// slowGraph is asked of a good program: what goes nowhere is put/1.
func slowGraph(t *testing.T, p []impl.Module) [][2]string {
	seen := map[[2]string]bool{}
	for _, m := range p {
		for _, f := range m.Funs {
			for _, call := range callsOf(t, f) {
				if to, ok := goesTo(p, m, call); ok {
					seen[[2]string{target{m.Name, f.Name, f.Arity}.text(), to.text()}] = true
				}
			}
		}
	}
	list := [][2]string{}
	for edge := range seen {
		list = append(list, edge)
	}
	slices.SortFunc(list, func(a, b [2]string) int { return slices.Compare(a[:], b[:]) })
	return list
}

// slowReached goes through all calls again, as long as there is more.
func slowReached(p []impl.Module, graph [][2]string) []string {
	list := []string{}
	for _, m := range p {
		for _, ref := range m.Exports {
			list = append(list, target{m.Name, ref.Name, ref.Arity}.text())
		}
	}
	for more := true; more; {
		more = false
		for _, edge := range graph {
			if slices.Contains(list, edge[0]) && !slices.Contains(list, edge[1]) {
				list = append(list, edge[1])
				more = true
			}
		}
	}
	return sortedOnce(list)
}

// shuffled has the modules in any order, so that most are no program.
func (m maker) shuffled(p []impl.Module) []impl.Module {
	p = slices.Clone(p)
	m.Shuffle(len(p), func(i, j int) { p[i], p[j] = p[j], p[i] })
	return p
}

func namesAscend(p []impl.Module) bool {
	for i := 1; i < len(p); i++ {
		if p[i-1].Name >= p[i].Name {
			return false
		}
	}
	return true
}

func TestProgramsAgainstWords(t *testing.T) {
	m := newMaker(51)
	good, bad := 0, map[string]int{}
	for i := range 3000 {
		p := m.program([]int{0, 60, 12, 4}[i%4])
		want := slowProblems(t, p)
		checkProblems(t, p, want)
		if turned := m.shuffled(p); !namesAscend(turned) {
			checkNoProgram(t, "another order", turned)
		}
		for _, q := range impl.Check(p) {
			bad[q.Code]++
		}
		if want != "" {
			continue
		}
		good++
		graph := slowGraph(t, p)
		checkGood(t, p, graphText(graph), strings.Join(slowReached(p, graph), " "))
		if t.Failed() {
			return
		}
	}
	if good < 700 || bad["export"] < 200 || bad["loose"] < 200 || bad["call"] < 200 || bad["far"] < 200 || len(bad) != 4 {
		t.Error("too few were checked:", good, bad)
	}
}

// P5: in a good program each call goes to a function that is there.
func TestCallsGoToWhatIsThere(t *testing.T) {
	m := newMaker(52)
	calls := 0
	for range 1500 {
		p := m.program([]int{0, 200}[m.Intn(2)])
		if !impl.Good(p) {
			continue
		}
		for _, mod := range p {
			for _, f := range mod.Funs {
				for _, to := range callsOf(t, f) {
					calls++
					if _, ok := goesTo(p, mod, to); !ok && to != (target{"", "put", 1}) {
						t.Fatalf("%s%v goes nowhere", programTextOf(p), to)
					}
				}
			}
		}
	}
	if calls < 5000 {
		t.Error("too few were checked:", calls)
	}
}

// P5: what a reached function calls is reached, and what is reached is exported or called by another that is.
func TestReachedGoesOn(t *testing.T) {
	m := newMaker(53)
	for range 1500 {
		p := m.goodProgram()
		reached, graph := impl.Reached(p), impl.Graph(p)
		checkAscending(t, reached)
		for _, mod := range p {
			for _, ref := range mod.Exports {
				if name := (target{mod.Name, ref.Name, ref.Arity}).text(); !slices.Contains(reached, name) {
					t.Fatalf("%s%s is exported and not reached", programTextOf(p), name)
				}
			}
		}
		for _, edge := range graph {
			if slices.Contains(reached, edge[0]) && !slices.Contains(reached, edge[1]) {
				t.Fatalf("%s%v: the first is reached, the second not", programTextOf(p), edge)
			}
		}
	}
}

// P5: what is reached goes on being reached, whatever is added to a good program.
func TestReachedStaysReached(t *testing.T) {
	m := newMaker(54)
	more := 0
	for range 1500 {
		p := m.goodProgram()
		if len(p) == 0 {
			continue
		}
		before := impl.Reached(p)
		grown := m.grown(p)
		if !impl.Good(grown) {
			t.Fatal(programTextOf(grown), problemsText(impl.Check(grown)))
		}
		after := impl.Reached(grown)
		for _, name := range before {
			if !slices.Contains(after, name) {
				t.Fatalf("%s%sis not reached any more: %s", programTextOf(p), programTextOf(grown), name)
			}
		}
		if len(after) > len(before) {
			more++
		}
	}
	if more < 200 {
		t.Error("too few reach more:", more)
	}
}

// grown has one more export, call, function or module.
func (m maker) grown(p []impl.Module) []impl.Module {
	p = roomy(p)
	mod := &p[m.Intn(len(p))]
	f := pickOf(m, mod.Funs)
	c := &mod.Funs[m.Intn(len(mod.Funs))].Clauses[0]
	here := call("", f.Name, slices.Repeat(only(num(1)), f.Arity)...)
	switch m.Intn(4) {
	case 0:
		if ref := (impl.Ref{Name: f.Name, Arity: f.Arity}); !slices.Contains(mod.Exports, ref) {
			mod.Exports = append(mod.Exports, ref)
			slices.SortFunc(mod.Exports, func(a, b impl.Ref) int {
				return slices.Compare([]string{a.Name, strconv.Itoa(a.Arity)}, []string{b.Name, strconv.Itoa(b.Arity)})
			})
		}
	case 1:
		c.Body = append([]impl.Exp{here}, c.Body...)
	case 2:
		c.Body = append(c.Body, call("", "new"))
		mod.Funs = append(mod.Funs, impl.Fun{Name: "new", Clauses: []impl.Clause{clause(nil, here)}})
	case 3:
		p = append(p, impl.Module{Name: "zz", Exports: []impl.Ref{{Name: "f"}}, Funs: []impl.Fun{{Name: "f", Clauses: []impl.Clause{clause(nil, num(1))}}}})
	}
	return p
}

func TestProgramsAreToldTheSameAgain(t *testing.T) {
	m := newMaker(55)
	for range 100 {
		p, wrong := m.goodProgram(), m.program(4)
		graph, reached, problems := impl.Graph(p), impl.Reached(p), impl.Check(wrong)
		for range 5 {
			if !reflect.DeepEqual(impl.Graph(p), graph) || !slices.Equal(impl.Reached(p), reached) || !slices.Equal(impl.Check(wrong), problems) {
				t.Fatal("another answer", programTextOf(p), programTextOf(wrong))
			}
		}
		wantGraph, wantReached, wantProblems := graphText(graph), strings.Join(reached, " "), problemsText(problems)
		clear(graph)
		clear(reached)
		clear(problems)
		if graphText(impl.Graph(p)) != wantGraph || strings.Join(impl.Reached(p), " ") != wantReached || problemsText(impl.Check(wrong)) != wantProblems {
			t.Fatal("an answer was kept")
		}
	}
}

func TestProgramMemory(t *testing.T) {
	m := newMaker(56)
	for i := range 400 {
		checkUntouched(t, m.program([]int{0, 12, 4}[i%3]), func(p []impl.Module) {
			impl.ProgramOk(p)
			impl.Good(p)
			checkApart(t, impl.Check(p), p)
			checkApart(t, impl.Graph(p), p)
			checkApart(t, impl.Reached(p), p)
		})
	}
}

// Spare room behind a program is none of its modules.
func TestSpareRoomOfAProgram(t *testing.T) {
	p := []impl.Module{module(t, "a", "f/0", "f() -> b:f()."), module(t, "b", "f/0", "f() -> 1.")}
	checkProblems(t, p, "")
	checkProblems(t, p[:1], "a:f/0 far")
}

// Modules that were made in any way, most of which are not ModuleOk.
func TestAnyPrograms(t *testing.T) {
	m := newMaker(57)
	for range 1500 {
		p := []impl.Module{}
		for range m.Intn(4) {
			p = append(p, m.oddModule())
		}
		ok := namesAscend(p) && !slices.ContainsFunc(p, func(x impl.Module) bool { return !impl.ModuleOk(x) })
		if !ok {
			checkNoProgram(t, plain(p), p)
		} else {
			checkProblems(t, p, slowProblems(t, p))
		}
	}
}

func (m maker) oddModule() impl.Module {
	made := impl.Module{Name: pickOf(m, []string{"a", "b", "c", "A", ""})}
	if m.Intn(2) == 0 {
		made = m.module(2)
	}
	switch m.Intn(6) {
	case 0:
		made.Exports = append(made.Exports, impl.Ref{Name: pickOf(m, []string{"f", "F", ""}), Arity: m.Intn(9) - 1})
	case 1:
		made.Funs = append(made.Funs, impl.Fun{Name: pickOf(m, []string{"f", "F", ""}), Arity: m.Intn(9) - 1, Clauses: []impl.Clause{m.oddClause(2)}})
	}
	return made
}
