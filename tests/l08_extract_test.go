package tests

import (
	"math"
	"slices"
	"strconv"
	"strings"
	"testing"

	"loop.example/g00377/impl"
)

// cutText tells what some EXPs want, and what is wanted of them.
func cutText(c impl.Clause, from, count int) string {
	return strings.Join(impl.Params(c, from, count), " ") + "|" + strings.Join(impl.Results(c, from, count), " ")
}

func checkCutText(t *testing.T, c impl.Clause, from, count int, want string) {
	t.Helper()
	if got := cutText(c, from, count); got != want {
		t.Errorf("%s: %d from %d on are %s, not %s", plain(c), count, from, got, want)
	}
}

func TestParamsAndResults(t *testing.T) {
	for _, k := range []struct {
		pats, body  string
		from, count int
		want        string
	}{
		// Nothing from outside, and nothing behind.
		{"", "1", 0, 1, "|"},
		{"A", "1, a, [], {2}", 1, 2, "|"},
		{"A, B", "X = 1, X, A", 0, 2, "|"},
		// Each kind of expression.
		{"A, B", "{A, {B, 1}}, A", 0, 1, "A B|"},
		{"A, B", "[A, 1 | B]", 0, 1, "A B|"},
		{"B, A", "A + 1 * B < 3", 0, 1, "A B|"},
		{"B, A", "g(A, m:g(B))", 0, 1, "A B|"},
		{"A", "X = A, X", 0, 1, "A|X"},
		{"A", "X = A, X", 1, 1, "X|"},
		{"A", "X = A, X", 0, 2, "A|"},
		{"A", "{X, [Y | _]} = A, Y, {X}", 0, 1, "A|X Y"},
		{"A", "{X, [Y | _]} = A, Y, {X}", 0, 2, "A|X"},
		{"A", "{X, [Y | _]} = A, Y, {X}", 1, 2, "X Y|"},
		{"A", "X = Y = A, Y", 0, 1, "A|Y"},
		{"A", "{X = A, [Y | Z = X]}, g(X, Z)", 0, 1, "A|X Z"},
		{"A", "put(P = A) + (Q = 1), Q - P", 0, 1, "A|P Q"},
		{"A", "case A of 1 -> 2 end, 3", 0, 1, "A|"},
		{"A", "case X = A of {Y} -> Z = Y; X -> X end, {X, A}", 0, 1, "A|X"},
		// Of the patterns, at any depth.
		{"{A, [B | C]}, 1, _, D", "{D, C, B, A}", 0, 1, "A B C D|"},
		{"{A, [B | C]}, 1, _, D", "{C, E = A}, E", 0, 1, "A C|E"},
		// Bound ahead, and tested again in a pattern.
		{"X", "X = 1, X", 0, 1, "X|"},
		{"X", "{X, Y} = g(), {X, Y}", 0, 1, "X|Y"},
		{"X", "[X | X] = g(), 1", 0, 1, "X|"},
		{"X", "case 1 of X -> same; _ -> other end", 0, 1, "X|"},
		{"X", "case 1 of _ -> {X} = {2} end", 0, 1, "X|"},
		{"", "X = 1, X = 2, X", 0, 1, "|X"},
		{"", "X = 1, X = 2, X", 0, 2, "|X"},
		{"", "X = 1, X = 2, X", 1, 1, "X|"},
		{"", "X = 1, X = 2, X", 1, 2, "X|"},
		{"", "X = 1, X = 2, X", 2, 1, "X|"},
		{"", "X = 1, 2, X = 3", 0, 2, "|X"},
		{"A", "X = A, case A of X -> 1; _ -> 2 end", 0, 1, "A|X"},
		{"A", "X = A, case A of {Y} -> X = Y end", 0, 1, "A|X"},
		// What a clause alone binds is not bound behind, and not bound ahead.
		{"A", "case A of X -> X end, X = 1, X", 0, 1, "A|"},
		{"A", "case A of X -> X end, X = 1, X", 1, 1, "|X"},
		{"A", "case A of X -> X end, X = 1, X", 0, 2, "A|X"},
		{"A", "case A of X -> X end, case A of X -> X end", 1, 1, "A|"},
		{"A", "case A of 1 -> X = 1, X; _ -> 2 end, X = A, X", 0, 1, "A|"},
		{"A", "case A of 1 -> X = 1, X; _ -> 2 end, X = A, X", 1, 1, "A|X"},
		{"", "X = 1, case 1 of X -> X end, 1", 1, 1, "X|"},
		// In an EXP behind, wherever it stands; a name of EXPs that are not behind does not count.
		{"", "X = 1, Y = 2, Z = 3, {case 1 of _ -> [Y] end}", 0, 3, "|Y"},
		{"", "X = 1, Y = X, Z = Y, Z", 1, 1, "X|Y"},
		{"", "X = 1, Y = X, Z = Y, Z", 0, 2, "|Y"},
		{"", "X = 1, Y = X, Z = Y, Z", 0, 3, "|Z"},
		{"", "X = 1, Y = X, Z = Y, Z", 1, 2, "X|Z"},
		{"", "X = 1, Y = X, Z = Y, Z", 0, 4, "|"},
		// Ascending by bytes.
		{"B, Aa, A_, A1, AB, A", "{A, B, A1, A_, Aa, AB}", 0, 1, "A A1 AB A_ Aa B|"},
		{"", "{B, Aa, A_, A1, AB, A} = g(), {B, Aa, A_, A1, AB, A}", 0, 1, "|A A1 AB A_ Aa B"},
	} {
		c := clauseOf(t, k.pats, k.body)
		if got := cutText(c, k.from, k.count); got != k.want {
			t.Errorf("(%s) -> %s: %d from %d on are %s, not %s", k.pats, k.body, k.count, k.from, got, k.want)
		}
	}
}

// EXPs that are not there want nothing, and nothing is wanted of them.
func TestParamsOfNoExps(t *testing.T) {
	c := clauseOf(t, "A", "X = A, Y = {A, X}, Z = Y, {X, Y, Z, A}")
	checkCutText(t, c, 0, 4, "A|")
	checkCutText(t, c, 0, 3, "A|X Y Z")
	checkCutText(t, c, 3, 1, "A X Y Z|")
	for _, k := range [][2]int{
		{-1, 1}, {-1, 2}, {-4, 4}, {-1, 5}, {4, 1}, {5, 1}, {4, 0}, {0, 0}, {3, 0}, {0, -1}, {1, -1}, {3, -3}, {0, 5}, {1, 4}, {3, 2}, {4, -1}, {5, -1}, {5, -5},
		{math.MaxInt, 1}, {math.MinInt, 1}, {0, math.MaxInt}, {0, math.MinInt}, {1, math.MaxInt}, {3, math.MaxInt}, {math.MaxInt, math.MaxInt}, {math.MinInt, math.MinInt},
		{math.MinInt, math.MaxInt}, {math.MaxInt, math.MinInt}, {-1, math.MinInt}, {-1, math.MaxInt}, {math.MinInt, -1}, {1 << 32, 1}, {1, 1 << 32}, {1<<32 + 1, 1}, {1, 1<<32 + 1},
	} {
		checkCutText(t, c, k[0], k[1], "|")
		checkCutText(t, impl.Clause{}, k[0], k[1], "|")
		checkCutText(t, impl.Clause{Pats: []impl.Exp{}, Body: []impl.Exp{}}, k[0], k[1], "|")
		checkCutText(t, impl.Clause{Pats: only(variable("A"))}, k[0], k[1], "|")
	}
}

// cutNumbers are those of any EXPs, most of which are there.
func (m maker) cutNumbers(c impl.Clause) (from, count int) {
	if len(c.Body) > 0 {
		from = m.Intn(len(c.Body))
		count = 1 + m.Intn(len(c.Body)-from)
	}
	switch m.Intn(8) {
	case 0:
		from = pickOf(m, oddNumbers)
	case 1:
		count = pickOf(m, oddNumbers)
	case 2:
		from, count = from+m.Intn(3)-1, count+m.Intn(3)-1
	}
	return from, count
}

func hasExps(c impl.Clause, from, count int) bool {
	there := 0
	for i := range c.Body {
		if i >= from && from >= 0 {
			there++
		}
	}
	return count > 0 && count <= there
}

// slowCutText asks for each variable of a clause where it is bound and where it stands.
func slowCutText(c impl.Clause, from, count int) string {
	if !hasExps(c, from, count) {
		return "|"
	}
	all := slices.Concat(c.Pats, c.Body)
	standsIn := func(name string, list []impl.Exp) bool {
		return slices.ContainsFunc(list, func(e impl.Exp) bool { return slices.Contains(impl.Vars(e), name) })
	}
	boundIn := func(name string, list []impl.Exp) bool {
		return slices.ContainsFunc(list, func(e impl.Exp) bool { return slices.Contains(impl.Bound(e), name) })
	}
	params, results := []string{}, []string{}
	for _, name := range impl.Vars(tuple(all...)) {
		ahead := standsIn(name, c.Pats) || boundIn(name, c.Body[:from])
		exps := c.Body[from : from+count]
		if standsIn(name, exps) && ahead {
			params = append(params, name)
		}
		if boundIn(name, exps) && !ahead && standsIn(name, c.Body[from+count:]) {
			results = append(results, name)
		}
	}
	return strings.Join(params, " ") + "|" + strings.Join(results, " ")
}

// Clauses of any shape and numbers of any kind have an answer, and nothing is written into them.
func TestParamsOfAnyClause(t *testing.T) {
	m := newMaker(81)
	told := map[string]int{}
	for i := range 3000 {
		c := clauseIn(m.cuttable(), place("m", "f", 2, 0))
		switch i % 3 {
		case 1:
			c = clause([]impl.Exp{m.scopePattern()}, m.scopeExps(m.Intn(6), 3)...)
		case 2:
			c = impl.Clause{Pats: m.oddExps(m.Intn(3), 2), Body: m.oddExps(m.Intn(6), 3)}
		}
		from, count := m.cutNumbers(c)
		want := slowCutText(c, from, count)
		checkUntouched(t, c, func(c impl.Clause) {
			checkCutText(t, c, from, count, want)
			params, results := impl.Params(c, from, count), impl.Results(c, from, count)
			checkApart(t, [][]string{params, results}, c)
			clear(params)
			clear(results)
			checkCutText(t, c, from, count, want)
		})
		params, results, _ := strings.Cut(want, "|")
		told["params "+strconv.Itoa(min(2, len(strings.Fields(params))))]++
		told["results "+strconv.Itoa(min(2, len(strings.Fields(results))))]++
	}
	checkKinds(t, told, 100, "params 0", "params 1", "params 2", "results 0", "results 1", "results 2")
	deep := impl.Clause{Pats: only(deepExp(20000)), Body: []impl.Exp{deepExp(20000), match(variable("Y"), deepExp(20000)), deepExp(20000), variable("Y")}}
	checkCutText(t, deep, 1, 2, "X|Y")
}

// cut is a function f and what becomes of it where some of its EXPs are a function part.
type cut struct {
	from, count int
	before      string
	after, part string
}

func TestExtract(t *testing.T) {
	for _, k := range []cut{
		// One EXP and several; the first, some in the middle, the last, the whole body.
		{0, 1, "f(A) -> 1, A", "f(A) -> part(), A", "part() -> 1"},
		{0, 2, "f(A) -> 1, 2, A", "f(A) -> part(), A", "part() -> 1, 2"},
		{1, 1, "f(A) -> 1, g(A), 3", "f(A) -> 1, part(A), 3", "part(A) -> g(A)"},
		{1, 2, "f(A) -> 1, g(A), h, 4", "f(A) -> 1, part(A), 4", "part(A) -> g(A), h"},
		{2, 1, "f(A) -> 1, 2, {A}", "f(A) -> 1, 2, part(A)", "part(A) -> {A}"},
		{1, 2, "f(A) -> 1, 2, {A}", "f(A) -> 1, part(A)", "part(A) -> 2, {A}"},
		{0, 3, "f(A) -> 1, 2, {A}", "f(A) -> part(A)", "part(A) -> 1, 2, {A}"},
		{0, 1, "f(_) -> a", "f(_) -> part()", "part() -> a"},
		// No Result, one, and several; the last EXP's value counts where nothing stands behind.
		{0, 1, "f(A) -> X = A", "f(A) -> part(A)", "part(A) -> X = A"},
		{0, 1, "f(A) -> X = A, A", "f(A) -> part(A), A", "part(A) -> X = A"},
		{0, 1, "f(A) -> X = A, X", "f(A) -> X = part(A), X", "part(A) -> X = A, X"},
		{0, 2, "f(A) -> X = A, put(X), X", "f(A) -> X = part(A), X", "part(A) -> X = A, put(X), X"},
		{0, 1, "f(A) -> {X, Y} = A, X - Y", "f(A) -> {X, Y} = part(A), X - Y", "part(A) -> {X, Y} = A, {X, Y}"},
		{0, 1, "f(A) -> {Y, X} = A, Y", "f(A) -> Y = part(A), Y", "part(A) -> {Y, X} = A, Y"},
		{0, 2, "f(A) -> B = {A}, [C | D] = g(B), {D, C, B}", "f(A) -> {B, C, D} = part(A), {D, C, B}", "part(A) -> B = {A}, [C | D] = g(B), {B, C, D}"},
		{1, 2, "f(A) -> B = {A}, C = g(B), D = C, {D, C, B}", "f(A) -> B = {A}, {C, D} = part(B), {D, C, B}", "part(B) -> C = g(B), D = C, {C, D}"},
		// Several names from outside, ascending.
		{1, 1, "f({C, [B | A]}) -> D = 1, g({D, B, A, C})", "f({C, [B | A]}) -> D = 1, part(A, B, C, D)", "part(A, B, C, D) -> g({D, B, A, C})"},
		{3, 1, "f(C) -> Z = 1, A = 2, Bb = 3, {Z, C, Bb, A, Bb}", "f(C) -> Z = 1, A = 2, Bb = 3, part(A, Bb, C, Z)", "part(A, Bb, C, Z) -> {Z, C, Bb, A, Bb}"},
		// Bound ahead, and tested again.
		{0, 1, "f(X) -> X = g(1), X", "f(X) -> part(X), X", "part(X) -> X = g(1)"},
		{0, 1, "f(X) -> {X, Y} = g({1, 2}), {Y, X}", "f(X) -> Y = part(X), {Y, X}", "part(X) -> {X, Y} = g({1, 2}), Y"},
		{1, 1, "f(A) -> X = 1, [X | A] = [1 | 2], A", "f(A) -> X = 1, part(A, X), A", "part(A, X) -> [X | A] = [1 | 2]"},
		{0, 1, "f(X) -> case g(1) of X -> same; _ -> other end, 1", "f(X) -> part(X), 1", "part(X) -> case g(1) of X -> same; _ -> other end"},
		{1, 1, "f(A) -> X = A, case g(1) of {X, Y} -> Y; X -> X; _ -> no end", "f(A) -> X = A, part(X)", "part(X) -> case g(1) of {X, Y} -> Y; X -> X; _ -> no end"},
		{0, 1, "f(A) -> X = A, case g(1) of X -> same; _ -> other end", "f(A) -> X = part(A), case g(1) of X -> same; _ -> other end", "part(A) -> X = A, X"},
		{0, 1, "f(A) -> X = A, X = 1, 2", "f(A) -> X = part(A), X = 1, 2", "part(A) -> X = A, X"},
		{1, 1, "f(A) -> X = A, X = 1, 2", "f(A) -> X = A, part(X), 2", "part(X) -> X = 1"},
		{0, 2, "f(A) -> X = A, X = 1, 2", "f(A) -> part(A), 2", "part(A) -> X = A, X = 1"},
		// What a clause alone binds.
		{0, 1, "f(A) -> case A of X -> X end, X = 2, X", "f(A) -> part(A), X = 2, X", "part(A) -> case A of X -> X end"},
		{1, 1, "f(A) -> case A of X -> X end, X = 2, X", "f(A) -> case A of X -> X end, X = part(), X", "part() -> X = 2, X"},
		{1, 1, "f(A) -> case A of {X} -> Y = X end, case A of {X} -> Y = X, Y end", "f(A) -> case A of {X} -> Y = X end, part(A)", "part(A) -> case A of {X} -> Y = X, Y end"},
		{0, 1, "f(A) -> case B = A of {C} -> C; _ -> B end, case A of C -> {C, B} end", "f(A) -> B = part(A), case A of C -> {C, B} end", "part(A) -> case B = A of {C} -> C; _ -> B end, B"},
		// Tuples, lists, operators, calls, matches within them, and cases within cases.
		{0, 1, "f(A) -> {B = A, [C = B | D = 1], (E = 2) + 3 * (F = 4)}, {B, C, D, E, F}", "f(A) -> {B, C, D, E, F} = part(A), {B, C, D, E, F}", "part(A) -> {B = A, [C = B | D = 1], (E = 2) + 3 * (F = 4)}, {B, C, D, E, F}"},
		{0, 2, "f(A) -> g(m:g(B = A)), put([B, A | A]) < put(B == A), B", "f(A) -> B = part(A), B", "part(A) -> g(m:g(B = A)), put([B, A | A]) < put(B == A), B"},
		{0, 1, "f(A) -> B = C = D = A, {C, D}", "f(A) -> {C, D} = part(A), {C, D}", "part(A) -> B = C = D = A, {C, D}"},
		{1, 1, "f(A) -> B = 1, {case A of {C} -> case C of {B, D} -> [D | A]; B -> {B} end; _ -> E = A, E end, F = B}, F", "f(A) -> B = 1, F = part(A, B), F", "part(A, B) -> {case A of {C} -> case C of {B, D} -> [D | A]; B -> {B} end; _ -> E = A, E end, F = B}, F"},
		// A call of the function that it was in, and names that are like variables but none.
		{0, 1, "f(A) -> f({f, A, a}), a", "f(A) -> part(A), a", "part(A) -> f({f, A, a})"},
	} {
		rest := ".\ng(X) -> X.\nh() -> part(1, 2, 3, 4, 5, 6).\npart(A, B, C, D, E, F) -> {A, B, C, D, E, F}."
		p := alone(t, "f/1, g/1", k.before+rest)
		want := alone(t, "f/1, g/1", k.after+rest+"\n"+k.part+".")
		got, code := impl.Extract(p, place("m", "f", 1, 0), k.from, k.count, "part")
		checkMade(t, p, got, code, want)
	}
}

// Clauses, functions and modules beside the one that is meant stay as they are; the new function is the last of its module.
func TestExtractInOneClause(t *testing.T) {
	clauses := []string{"f(X) -> Y = {X, 0}, Y", "f({X, 1}) -> Y = {X, 0}, Y", "f([X | _]) -> Y = {X, 0}, Y"}
	text := func(at int) string {
		list := slices.Clone(clauses)
		if at >= 0 {
			list[at] = strings.Replace(list[at], "{X, 0}", "part(X)", 1)
		}
		return strings.Join(list, ";\n") + ".\n"
	}
	program := func(at int, last string) []impl.Module {
		return []impl.Module{
			module(t, "a", "f/1", text(-1)+"part(X) -> m:f(X)."),
			module(t, "m", "f/1, z/2", "e(X) -> Y = {X, 0}, Y.\n"+text(at)+"f(X, Y) -> {X, Y}. z(X, Y) -> f(X), f(X, Y). part() -> 1."+last),
			module(t, "z", "f/1, part/1", text(-1)+"part(X) -> X."),
		}
	}
	p := program(-1, "")
	for at := range clauses {
		got, code := impl.Extract(p, place("m", "f", 1, at), 0, 1, "part")
		checkMade(t, p, got, code, program(at, "part(X) -> Y = {X, 0}, Y."))
	}
	for _, at := range []int{-1, 3, math.MaxInt, math.MinInt, 1 << 32} {
		checkCutCode(t, p, place("m", "f", 1, at), 0, 1, "part", impl.EdNone)
	}
}

// One cut behind the other, of what was cut, too.
func TestExtractAgain(t *testing.T) {
	p := alone(t, "f/2", "f(A, B) -> C = A + B, put(C), D = {C, A}, put(D), {D, B}.")
	q, code := impl.Extract(p, place("m", "f", 2, 0), 0, 4, "one")
	checkMade(t, p, q, code, alone(t, "f/2", "f(A, B) -> D = one(A, B), {D, B}. one(A, B) -> C = A + B, put(C), D = {C, A}, put(D), D."))
	r, code := impl.Extract(q, place("m", "one", 2, 0), 1, 3, "two")
	checkMade(t, q, r, code, alone(t, "f/2", "f(A, B) -> D = one(A, B), {D, B}. one(A, B) -> C = A + B, D = two(A, C), D. two(A, C) -> put(C), D = {C, A}, put(D), D."))
	s, code := impl.Extract(r, place("m", "two", 2, 0), 3, 1, "three")
	checkMade(t, r, s, code, alone(t, "f/2", "f(A, B) -> D = one(A, B), {D, B}. one(A, B) -> C = A + B, D = two(A, C), D. two(A, C) -> put(C), D = {C, A}, put(D), three(D). three(D) -> D."))
	u, code := impl.Extract(s, place("m", "f", 2, 0), 0, 1, "four")
	checkMade(t, s, u, code, alone(t, "f/2", "f(A, B) -> D = four(A, B), {D, B}. one(A, B) -> C = A + B, D = two(A, C), D. two(A, C) -> put(C), D = {C, A}, put(D), three(D). three(D) -> D. four(A, B) -> D = one(A, B), D."))
	for _, x := range [][]impl.Module{p, q, r, s, u} {
		checkRun(t, x, []impl.Val{numVal(2), numVal(3)}, "ok {{5, 2}, 3} >5 >{5, 2}")
		checkRun(t, x, []impl.Val{numVal(2), atomVal("b")}, "fail badarith")
	}
}

// A module's own put/1 is called as before by what is cut; a function put of another number of parameters is no put/1.
func TestExtractAndPut(t *testing.T) {
	p := []impl.Module{module(t, "a", "f/1", "f(X) -> put(X), m:put(X)."), module(t, "m", "f/1, put/1", "f(X) -> put(X), {a:f(X), X}. put(X) -> {own, X}.")}
	got, code := impl.Extract(p, place("m", "f", 1, 0), 0, 1, "part")
	checkMade(t, p, got, code, []impl.Module{p[0], module(t, "m", "f/1, put/1", "f(X) -> part(X), {a:f(X), X}. put(X) -> {own, X}. part(X) -> put(X).")})
	for _, q := range [][]impl.Module{p, got} {
		checkRun(t, q, []impl.Val{numVal(1)}, "ok {{own, 1}, 1} >1")
	}
	for mod := range p {
		checkCutCode(t, p, place(p[mod].Name, "f", 1, 0), 0, 1, "put", impl.EdTaken)
	}
	q := alone(t, "f/2", "f(X, Y) -> put(1), put({X, Y}), X.")
	got, code = impl.Extract(q, place("m", "f", 2, 0), 0, 1, "put")
	checkMade(t, q, got, code, alone(t, "f/2", "f(X, Y) -> put(), put({X, Y}), X. put() -> put(1)."))
	got, code = impl.Extract(got, place("m", "f", 2, 0), 1, 1, "put")
	checkMade(t, q, got, code, alone(t, "f/2", "f(X, Y) -> put(), put(X, Y), X. put() -> put(1). put(X, Y) -> put({X, Y})."))
	checkRun(t, got, []impl.Val{numVal(1), numVal(2)}, "ok 1 >1 >{1, 2}")
	checkCutCode(t, q, place("m", "f", 2, 0), 2, 1, "put", impl.EdTaken)
}

func checkCutCode(t *testing.T, p []impl.Module, at impl.Place, from, count int, name string, want int) {
	t.Helper()
	got, code := impl.Extract(p, at, from, count, name)
	checkRefused(t, plain(at)+" "+strconv.Itoa(from)+" "+strconv.Itoa(count)+" "+name, p, got, code, want)
}

// cutCodes are a good program, and some of the same modules that are none.
func cutCodes(t *testing.T) (good []impl.Module, bad [][]impl.Module) {
	good = []impl.Module{module(t, "a", "f/1", "f(X) -> m:f(X, 1)."), module(t, "m", "f/2, g/0", "f(X, Y) -> Z = X, g(), {Z, Y}; f(_, 1) -> 1; f(_, _) -> 1, 2. g() -> 1. h(X) -> X.")}
	loose, astray, hidden := roomy(good), roomy(good), roomy(good)
	loose[0].Funs[0].Clauses[0].Body = only(variable("Q"))
	astray[1].Funs[1].Clauses[0].Body = only(call("", "gone"))
	hidden[1].Exports = append(hidden[1].Exports, impl.Ref{Name: "z"})
	return good, [][]impl.Module{loose, astray, hidden, {good[1], good[0]}, good[:1], {{}}, {good[0], good[0]}}
}

// placesOfNothing are those of no clause of the good program of cutCodes.
var placesOfNothing = []impl.Place{
	{}, place("q", "f", 2, 0), place("", "f", 2, 0), place("M", "f", 2, 0), place("m", "q", 2, 0), place("m", "", 2, 0), place("m", "put", 1, 0),
	place("m", "f", 1, 0), place("m", "f", 3, 0), place("m", "f", -2, 0), place("a", "f", 2, 0), place("a", "g", 0, 0), place("m", "g", 1, 0),
	place("m", "f", 2, -1), place("m", "f", 2, 3), place("m", "f", 2, math.MaxInt), place("m", "f", 2, math.MinInt), place("m", "f", 2, 1<<32),
	place("m", "f", math.MaxInt, 0), place("m", "f", math.MinInt, 0), place("m", "f", 1<<32+2, 0), place("m:f", "f", 2, 0), place("m", "f/2", 2, 0),
}

var wrongNames = []string{"", "X", "_", "_x", "1", "x y", "New", "x\n", " x", "abcdefghijk", "é", "x\xff", "\x00", "x-", "case", "of", "end", "a:f", "f/2", strings.Repeat("x", 5000)}

func TestExtractCodes(t *testing.T) {
	good, bad := cutCodes(t)
	at := place("m", "f", 2, 0)
	names := []string{"new", "New", "f", "g", "h", "put", ""}
	for _, name := range names {
		for _, p := range bad {
			checkCutCode(t, p, at, 0, 1, name, impl.EdBad)
			checkCutCode(t, p, at, 7, -1, name, impl.EdBad)
			checkCutCode(t, p, place("q", "f", 2, 9), 0, 1, name, impl.EdBad)
		}
		for _, wrong := range placesOfNothing {
			checkCutCode(t, good, wrong, 0, 1, name, impl.EdNone)
		}
		for _, k := range [][2]int{
			{-1, 1}, {-1, 2}, {3, 1}, {4, 1}, {3, 0}, {0, 0}, {0, -1}, {1, -1}, {0, 4}, {1, 3}, {2, 2}, {math.MaxInt, 1}, {math.MinInt, 1}, {0, math.MaxInt}, {0, math.MinInt},
			{2, math.MaxInt}, {math.MaxInt, math.MaxInt}, {math.MinInt, math.MinInt}, {math.MinInt, math.MaxInt}, {math.MaxInt, math.MinInt}, {1 << 32, 1}, {1, 1<<32 + 1},
		} {
			checkCutCode(t, good, at, k[0], k[1], name, impl.EdNone)
		}
		// The second clause has one EXP, and the third two.
		checkCutCode(t, good, place("m", "f", 2, 1), 1, 1, name, impl.EdNone)
		checkCutCode(t, good, place("m", "f", 2, 1), 0, 2, name, impl.EdNone)
		checkCutCode(t, good, place("m", "f", 2, 2), 2, 1, name, impl.EdNone)
		checkCutCode(t, nil, at, 0, 1, name, impl.EdNone)
		checkCutCode(t, []impl.Module{}, at, 0, 1, name, impl.EdNone)
	}
	for _, name := range wrongNames {
		checkCutCode(t, good, at, 0, 1, name, impl.EdName)
		checkCutCode(t, good, at, 0, 3, name, impl.EdName)
	}
	for _, name := range []string{"new", "abcdefghij", "a", "m", "casex", "x_Z9", "module", "export"} {
		if got, code := impl.Extract(good, at, 0, 1, name); code != impl.EdOk || sameProgram(got, good) || !impl.Good(got) {
			t.Error(name, code)
		}
	}
}

// Taken is a name with as many parameters as there are Params, exported or not, in that module alone.
func TestExtractTaken(t *testing.T) {
	good, _ := cutCodes(t)
	at := place("m", "f", 2, 0)
	for _, k := range []struct {
		from, count int
		name        string
		want        int
	}{
		{0, 1, "f", impl.EdOk}, {0, 1, "g", impl.EdOk}, {0, 1, "h", impl.EdTaken}, {0, 1, "put", impl.EdTaken},
		{1, 1, "f", impl.EdOk}, {1, 1, "g", impl.EdTaken}, {1, 1, "h", impl.EdOk}, {1, 1, "put", impl.EdOk},
		{2, 1, "f", impl.EdTaken}, {2, 1, "g", impl.EdOk}, {2, 1, "h", impl.EdOk}, {2, 1, "put", impl.EdOk},
		{0, 3, "f", impl.EdTaken}, {0, 3, "g", impl.EdOk}, {0, 3, "h", impl.EdOk}, {0, 3, "put", impl.EdOk},
	} {
		if k.want != impl.EdOk {
			checkCutCode(t, good, at, k.from, k.count, k.name, k.want)
			continue
		}
		got, code := impl.Extract(good, at, k.from, k.count, k.name)
		if last := got[1].Funs[len(got[1].Funs)-1]; code != impl.EdOk || len(got[1].Funs) != 4 || last.Name != k.name || !impl.Good(got) {
			t.Errorf("%+v is %d\n%s", k, code, programTextOf(got))
		}
	}
	// In module a f/1 is taken, and h/1 is not.
	checkCutCode(t, good, place("a", "f", 1, 0), 0, 1, "f", impl.EdTaken)
	got, code := impl.Extract(good, place("a", "f", 1, 0), 0, 1, "h")
	checkMade(t, good, got, code, []impl.Module{module(t, "a", "f/1", "f(X) -> h(X). h(X) -> m:f(X, 1)."), good[1]})
}

// 6 Params may be, 7 not; 20 Results may be, 21 not.
func TestExtractShape(t *testing.T) {
	p := alone(t, "f/6", "f(A, B, C, D, E, F) -> G = 1, {F, E, D, C, B, A}, {A, B, C, D, E, F, G}, case A of 1 -> {B, C, D, E, F, G}; G -> B end. part(A, B, C, D, E, F) -> 1.")
	at := place("m", "f", 6, 0)
	got, code := impl.Extract(p, at, 1, 1, "new")
	checkMade(t, p, got, code, alone(t, "f/6", "f(A, B, C, D, E, F) -> G = 1, new(A, B, C, D, E, F), {A, B, C, D, E, F, G}, case A of 1 -> {B, C, D, E, F, G}; G -> B end. part(A, B, C, D, E, F) -> 1. new(A, B, C, D, E, F) -> {F, E, D, C, B, A}."))
	got, code = impl.Extract(p, at, 0, 4, "new")
	checkMade(t, p, got, code, alone(t, "f/6", "f(A, B, C, D, E, F) -> new(A, B, C, D, E, F). part(A, B, C, D, E, F) -> 1. new(A, B, C, D, E, F) -> G = 1, {F, E, D, C, B, A}, {A, B, C, D, E, F, G}, case A of 1 -> {B, C, D, E, F, G}; G -> B end."))
	for _, k := range [][2]int{{2, 1}, {1, 2}, {2, 2}, {1, 3}, {3, 1}} {
		checkCutCode(t, p, at, k[0], k[1], "new", impl.EdShape)
		checkCutCode(t, p, at, k[0], k[1], "part", impl.EdShape)
		checkCutCode(t, p, at, k[0], k[1], "put", impl.EdShape)
		checkCutCode(t, p, at, k[0], k[1], "Part", impl.EdName)
		checkCutCode(t, p, at, k[0], 9, "Part", impl.EdNone)
	}
	checkCutCode(t, p, at, 1, 1, "part", impl.EdTaken)

	twenty := manyTexts(20, ", ", numbered("X"))
	q := alone(t, "f/1", "f(A) -> {"+twenty+"} = A, X30 = A, {"+twenty+"}, X30. part(A) -> A.")
	at = place("m", "f", 1, 0)
	got, code = impl.Extract(q, at, 0, 1, "new")
	checkMade(t, q, got, code, alone(t, "f/1", "f(A) -> {"+twenty+"} = new(A), X30 = A, {"+twenty+"}, X30. part(A) -> A. new(A) -> {"+twenty+"} = A, {"+twenty+"}."))
	if code == impl.EdOk {
		list := tupleVal(slices.Repeat([]impl.Val{numVal(7)}, 20)...)
		checkRun(t, got, []impl.Val{list}, "ok "+impl.ValText(list))
	}
	got, code = impl.Extract(q, at, 0, 3, "new")
	checkMade(t, q, got, code, alone(t, "f/1", "f(A) -> X30 = new(A), X30. part(A) -> A. new(A) -> {"+twenty+"} = A, X30 = A, {"+twenty+"}, X30."))
	for name, want := range map[string]int{"new": impl.EdShape, "part": impl.EdShape, "put": impl.EdShape, "Part": impl.EdName} {
		checkCutCode(t, q, at, 0, 2, name, want)
	}
	checkCutCode(t, q, at, 0, 1, "part", impl.EdTaken)
}

// crowded is a program of a module with so many functions.
func crowded(t *testing.T, count int) []impl.Module {
	t.Helper()
	return alone(t, "f/1", "f(X) -> Y = X, {Y, X}. "+crowd(count-1))
}

func crowd(count int) string {
	return manyTexts(count, " ", func(i int) string { return "g" + strconv.Itoa(i) + "() -> 1." })
}

func TestExtractFull(t *testing.T) {
	at := place("m", "f", 1, 0)
	p := crowded(t, 29)
	got, code := impl.Extract(p, at, 0, 1, "new")
	if code != impl.EdOk || len(got[0].Funs) != 30 || got[0].Funs[29].Name != "new" || !impl.Good(got) {
		t.Fatal("the thirtieth", code)
	}
	checkRun(t, got, []impl.Val{numVal(4)}, "ok {4, 4}")
	for _, q := range [][]impl.Module{got, crowded(t, 30)} {
		checkCutCode(t, q, at, 0, 1, "newer", impl.EdFull)
		checkCutCode(t, q, at, 0, 2, "newer", impl.EdFull)
		checkCutCode(t, q, at, 1, 1, "newer", impl.EdFull)
		checkCutCode(t, q, place("m", "g5", 0, 0), 0, 1, "newer", impl.EdFull)
		checkCutCode(t, q, at, 0, 1, "f", impl.EdTaken)
		checkCutCode(t, q, at, 0, 1, "put", impl.EdTaken)
		checkCutCode(t, q, at, 0, 1, "New", impl.EdName)
		checkCutCode(t, q, at, 2, 1, "newer", impl.EdNone)
	}
	// Another module may be full.
	full, small := crowded(t, 30)[0], module(t, "z", "f/1", "f(X) -> m:f(X).")
	p = []impl.Module{full, small}
	got, code = impl.Extract(p, place("z", "f", 1, 0), 0, 1, "new")
	checkMade(t, p, got, code, []impl.Module{full, module(t, "z", "f/1", "f(X) -> new(X). new(X) -> m:f(X).")})
	checkCutCode(t, p, at, 0, 1, "new", impl.EdFull)
}

// A module that is full and would take too many Params as well: the shape is named first.
func TestExtractFullAndShape(t *testing.T) {
	p := alone(t, "f/6", "f(A, B, C, D, E, F) -> G = 1, {A, B, C, D, E, F, G}. "+crowd(29))
	checkCutCode(t, p, place("m", "f", 6, 0), 1, 1, "new", impl.EdShape)
	checkCutCode(t, p, place("m", "f", 6, 0), 0, 2, "new", impl.EdFull)
}

// A body and an expression may be as long and as deep as there may be.
func TestExtractAtTheLimits(t *testing.T) {
	p := []impl.Module{fullModule("m0"), fullModule("m9")}
	checkFull := func(from, count int, name string, want int) {
		t.Helper()
		got, code := impl.Extract(p, place("m9", "f29", 6, 19), from, count, name)
		if code != want || !sameProgram(got, p) {
			t.Error(from, count, name, code)
		}
	}
	checkFull(7, 1, "new", impl.EdFull)
	checkFull(7, 1, "f0", impl.EdTaken)
	checkFull(0, 21, "new", impl.EdNone)
	checkFull(20, 1, "new", impl.EdNone)
	body := slices.Repeat(only(variable("F")), 20)
	body[7] = p[0].Funs[0].Clauses[0].Body[7]
	body[8] = match(variable("G"), num(1))
	body[19] = tuple(variable("F"), variable("G"))
	p = []impl.Module{fullModule("m0"), fullModule("m9")}
	p[1].Funs = p[1].Funs[:29]
	p[1].Exports = p[1].Exports[:19]
	p[1].Funs[28].Clauses[19].Body = body
	at := place("m9", "f28", 6, 19)
	for _, k := range []struct{ from, count, params, last int }{{0, 20, 6, 20}, {0, 19, 6, 20}, {7, 1, 6, 1}, {8, 1, 0, 2}, {19, 1, 2, 1}, {1, 18, 6, 19}} {
		got, code := impl.Extract(p, at, k.from, k.count, "new")
		last := got[1].Funs[len(got[1].Funs)-1]
		if code != impl.EdOk || !impl.Good(got) || last.Name != "new" || last.Arity != k.params || len(last.Clauses) != 1 || len(last.Clauses[0].Body) != k.last || len(got[1].Funs[28].Clauses[19].Body) != 21-k.count {
			t.Errorf("%+v is %d", k, code)
		}
	}
}

// checkDoesTheSame wants what a run that ended comes to, with enough fuel, and what it put out of one that did not.
// The first run has little fuel, so that the other one can't want more calls within calls than there may be.
func checkDoesTheSame(t *testing.T, p, q []impl.Module, s start, little int) impl.Result {
	t.Helper()
	before, after := impl.Run(p, s.mod, s.name, s.args, little), impl.Run(q, s.mod, s.name, s.args, impl.MaxFuel/10)
	ended := before.Code == impl.RunOk || before.Code == impl.RunFail
	if before.Code == impl.RunNone || ended && !impl.SameResult(before, after) || !beginsWith(after.Out, before.Out) {
		t.Fatalf("%sbecomes\n%s%s is %q, and was %q", programTextOf(p), programTextOf(q), startText(s.mod, s.name, s.args), impl.ResultText(after), impl.ResultText(before))
	}
	return before
}

// P8: each part of each body of programs that answer, fail and put something out.
func TestEachPartDoesTheSame(t *testing.T) {
	main := module(t, "main", "dbl/1, pick/2, run/2, sum/1", "run(L, Low) -> R = util:rev(L), {M, N} = util:both(R), S = sum(M), case S of Low -> none; N -> put({all, N}), {N, M}; Other -> T = Other - N, put(T), [T, S | N] end; run(L, _) -> put(L), L. "+
		"dbl(X) -> Y = X + X, Z = {Y, X}, put(Z), {Y, X} = Z, Y. sum([]) -> 0; sum([H | T]) -> Rest = sum(T), Sum = H + Rest, Sum. "+
		"pick({A, B}, A) -> C = case B of {D} -> D; A -> put(same), {A, B} end, D = C, put(D), A = B, {A, C, D}; pick(A, B) -> X = {Y = A, Z = {Y}}, case B of Y -> put(X), W = Z; _ -> W = 1 end, {W, Q} = {B, Z}, {W, X, Q, Y}.")
	util := module(t, "util", "both/1, rev/1", "rev(L) -> put(rev), Done = [], rev(L, Done). rev([], Done) -> Done; rev([H | T], Done) -> put(H), Next = [H | Done], R = rev(T, Next), R. "+
		"both(L) -> M = map(L), N = main:sum(L), put(N), {M, N}. map([]) -> []; map([H | T]) -> D = main:dbl(H), E = map(T), [D | E].")
	p := []impl.Module{main, util}
	three, odd := consVal(numVal(3), consVal(numVal(5), nilVal())), consVal(numVal(3), atomVal("a"))
	pair := tupleVal(numVal(1), numVal(1))
	starts := []start{
		{"main", "run", []impl.Val{three, numVal(0)}}, {"main", "run", []impl.Val{nilVal(), numVal(0)}}, {"main", "run", []impl.Val{nilVal(), numVal(1)}}, {"main", "run", []impl.Val{odd, numVal(0)}},
		{"main", "dbl", []impl.Val{numVal(4)}}, {"main", "dbl", []impl.Val{three}}, {"main", "sum", []impl.Val{three}}, {"main", "sum", []impl.Val{odd}},
		{"main", "pick", []impl.Val{pair, numVal(1)}}, {"main", "pick", []impl.Val{tupleVal(numVal(1), tupleVal(numVal(2))), numVal(1)}}, {"main", "pick", []impl.Val{tupleVal(numVal(1), numVal(2)), numVal(1)}},
		{"main", "pick", []impl.Val{numVal(1), numVal(1)}}, {"main", "pick", []impl.Val{numVal(1), numVal(2)}}, {"main", "pick", []impl.Val{pair, pair}},
		{"util", "rev", []impl.Val{three}}, {"util", "rev", []impl.Val{odd}}, {"util", "both", []impl.Val{three}},
	}
	codes, cuts := map[int]int{}, 0
	for at, c := range clausesOf(p) {
		for from := range c.Body {
			for count := 1; count <= len(c.Body)-from; count++ {
				q, code := impl.Extract(p, at, from, count, "part")
				if code != impl.EdOk {
					t.Fatalf("%+v: %d from %d on is %d", at, count, from, code)
				}
				cuts++
				for _, s := range starts {
					codes[checkDoesTheSame(t, p, q, s, 400).Code]++
				}
			}
		}
	}
	if cuts < 80 || codes[impl.RunOk] < 500 || codes[impl.RunFail] < 500 || codes[impl.RunFuel] > 0 {
		t.Error("too few", cuts, codes)
	}
	checkRunOf(t, p, "main", "run", starts[0].args, enough, "ok [8 | [16 | 8]] >rev >3 >5 >{10, 5} >{6, 3} >8 >8")
}

// P8: one Result is handed back as it is, however large: no tuple is made around it.
func TestLargeResult(t *testing.T) {
	p := alone(t, "f/1", "f(A) -> X = {A}, put(1), {Y} = X, Y == A.")
	q, code := impl.Extract(p, place("m", "f", 1, 0), 0, 2, "part")
	checkMade(t, p, q, code, alone(t, "f/1", "f(A) -> X = part(A), {Y} = X, Y == A. part(A) -> X = {A}, put(1), X."))
	for _, x := range [][]impl.Module{p, q} {
		checkRun(t, x, []impl.Val{ofParts(1999)}, "ok true >1")
	}
}

// P8: programs that are made, and parts of their bodies as functions, one behind the other.
func TestMadePartsDoTheSame(t *testing.T) {
	m := newMaker(82)
	told := map[string]int{}
	for i := range 1500 {
		// A run takes 1 of fuel for each call, and three cuts lay at most three more around each.
		p, little := m.cuttable(), 300
		if i%3 == 0 {
			p, little = m.goodRunnable(), 45
		}
		q := p
		for j := range 1 + m.Intn(3) {
			at := m.cutPlace(q)
			c := clauseIn(q, at)
			from, count := m.cutOf(c)
			made, code := impl.Extract(q, at, from, count, "n"+strconv.Itoa(j))
			told[impl.CodeText(code)]++
			told["params "+strconv.Itoa(len(impl.Params(c, from, count)))]++
			told["results "+strconv.Itoa(len(impl.Results(c, from, count)))]++
			if want := slowCutCode(q, at, from, count, "n"+strconv.Itoa(j)); code != want || !impl.Good(made) {
				t.Fatalf("%s%+v %d from %d on is %d", programTextOf(q), at, count, from, code)
			}
			q = made
		}
		for _, mod := range p {
			for _, ref := range mod.Exports {
				r := checkDoesTheSame(t, p, q, start{mod.Name, ref.Name, m.vals(ref.Arity, 1)}, little)
				told["run "+impl.CodeText(r.Code)]++
				told["out"] += min(1, len(r.Out))
			}
		}
	}
	checkKinds(t, told, 100, "ok", "params 0", "params 1", "params 2", "params 3", "params 4", "results 0", "results 1", "results 2", "run ok", "run bad", "run none", "out")
}

// What comes out against the words that a program is shown with.
func TestExtractAgainstWords(t *testing.T) {
	m := newMaker(83)
	told := map[string]int{}
	for i := range 1500 {
		p := m.cuttable()
		if i%3 == 0 {
			p = m.goodProgram()
		}
		if len(p) == 0 {
			continue
		}
		at := m.cutPlace(p)
		c := clauseIn(p, at)
		from, count := m.cutOf(c)
		name := pickOf(m, funNames)
		want, words := rewordedCut(t, p, at, from, count, name)
		checkCutText(t, c, from, count, words.params+"|"+words.results)
		got, code := impl.Extract(p, at, from, count, name)
		told[impl.CodeText(code)]++
		told["results "+strconv.Itoa(min(2, len(strings.Fields(words.results))))]++
		if refusal := slowCutCode(p, at, from, count, name); refusal != impl.EdOk {
			checkRefused(t, name, p, got, code, refusal)
		} else if text := wordsText(programWords(t, got)); code != impl.EdOk || text != want {
			t.Fatalf("%s%+v %d from %d on as %s is (%d)\n%snot\n%s", programTextOf(p), at, count, from, name, code, text, want)
		}
	}
	checkKinds(t, told, 50, "ok", "taken", "results 0", "results 1", "results 2")
}

// P8: what was reached is reached still, and the new function with it, where its caller is.
func TestExtractKeepsWhatIsReached(t *testing.T) {
	m := newMaker(84)
	for range 500 {
		p := m.goodProgram()
		if len(p) == 0 {
			continue
		}
		at := m.placeIn(p)
		c := clauseIn(p, at)
		got, code := impl.Extract(p, at, 0, len(c.Body), "zz")
		if code != impl.EdOk {
			t.Fatal(code)
		}
		from, to := target{at.Mod, at.Name, at.Arity}.text(), target{at.Mod, "zz", len(impl.Params(c, 0, len(c.Body)))}.text()
		want := impl.Reached(p)
		if slices.Contains(want, from) {
			want = sortedOnce(append(want, to))
		}
		if !slices.Equal(impl.Reached(got), want) || !slices.Contains(impl.Graph(got), [2]string{from, to}) {
			t.Fatalf("%sbecomes\n%s", programTextOf(p), programTextOf(got))
		}
	}
}

// slowCutCode goes through what the document says of each code, in its order.
func slowCutCode(p []impl.Module, at impl.Place, from, count int, name string) int {
	if !impl.Good(p) {
		return impl.EdBad
	}
	for _, m := range p {
		for _, f := range m.Funs {
			if m.Name != at.Mod || f.Name != at.Name || f.Arity != at.Arity || at.Clause < 0 || at.Clause >= len(f.Clauses) || !hasExps(f.Clauses[at.Clause], from, count) {
				continue
			}
			params, results, _ := strings.Cut(slowCutText(f.Clauses[at.Clause], from, count), "|")
			arity := len(strings.Fields(params))
			switch {
			case !impl.AtomOk(name):
				return impl.EdName
			case arity > 6 || len(strings.Fields(results)) > 20:
				return impl.EdShape
			case isThere(m, target{"", name, arity}) || name == "put" && arity == 1:
				return impl.EdTaken
			case len(m.Funs) == 30:
				return impl.EdFull
			}
			return impl.EdOk
		}
	}
	return impl.EdNone
}

// Any programs, places, numbers and names have an answer, and the same one each time.
func TestAnyExtract(t *testing.T) {
	m := newMaker(85)
	told := map[string]int{}
	for i := range 3000 {
		p := m.anyProgram(i)
		at := m.oddPlace(p)
		from, count := m.cutNumbers(impl.Clause{Body: make([]impl.Exp, 1+m.Intn(2))})
		name := pickOf(m, [][]string{oddNames, funNames, programFuns, programFuns}[i%4])
		got, code := impl.Extract(p, at, from, count, name)
		told[impl.CodeText(code)]++
		checkRenamed(t, p, got, code, slowCutCode(p, at, from, count, name))
		if again, same := impl.Extract(p, at, from, count, name); same != code || !sameProgram(got, again) {
			t.Errorf("another answer: %+v %d %d %s %s", at, from, count, name, programTextOf(p))
		}
	}
	checkKinds(t, told, 40, "ok", "bad", "none", "name", "taken")
}

// Programs that are none, each wrong in one way.
func TestExtractOfNoProgram(t *testing.T) {
	good := []impl.Module{module(t, "a", "f/1", "f(X) -> X."), module(t, "m", "f/1", "f(X) -> a:f(X)."), module(t, "z", "f/1", "f(X) -> X.")}
	for at := range good {
		for what, spoil := range spoilings() {
			p := roomy(good)
			spoil(&p[at])
			checkUntouched(t, p, func(p []impl.Module) {
				got, code := impl.Extract(p, place("m", "f", 1, 0), 0, 1, "new")
				checkBad(t, what, p, got, code)
			})
		}
	}
	p := []impl.Module{endless("m"), endless("z")}
	got, code := impl.Extract(p, place("m", "f", 0, 0), 0, 1, "new")
	checkHoldsItself(t, p, got, code)
}

// What is answered shares no memory with the arguments, no two lists of it share any, and nothing is written into the arguments.
func TestExtractMemory(t *testing.T) {
	m := newMaker(86)
	for i := range 200 {
		p, at := m.cuttable(), place("m", "f", 2, 0)
		if i%5 == 0 {
			p = []impl.Module{m.oddModule()}
			at = m.oddPlace(p)
		}
		from, count := m.cutNumbers(clauseIn(p, place("m", "f", 2, 0)))
		checkUntouched(t, p, func(p []impl.Module) {
			for _, name := range []string{"new", "New", "put"} {
				got, _ := impl.Extract(p, at, from, count, name)
				checkApart(t, got, p)
				spoilProgram(got)
			}
		})
	}
}

// A program may hold one list in many places; what is made of it does not.
func TestExtractOfSharedLists(t *testing.T) {
	kids := []impl.Exp{variable("X"), variable("X")}
	whole := impl.Exp{Kind: impl.ExTuple, Kids: kids}
	body := []impl.Exp{whole, match(variable("Y"), whole), match(variable("Z"), whole), tuple(variable("Y"), variable("Z"))}
	c := impl.Clause{Pats: kids[:1], Body: body}
	f := impl.Fun{Name: "f", Arity: 1, Clauses: []impl.Clause{c, c}}
	exports := []impl.Ref{{Name: "f", Arity: 1}}
	p := []impl.Module{{Name: "a", Exports: exports, Funs: []impl.Fun{f}}, {Name: "m", Exports: exports, Funs: []impl.Fun{f}}}
	const kept = "f(X) -> {X, X}, Y = {X, X}, Z = {X, X}, {Y, Z}"
	checkUntouched(t, p, func([]impl.Module) {
		got, code := impl.Extract(p, place("m", "f", 1, 1), 1, 2, "new")
		checkMade(t, p, got, code, []impl.Module{module(t, "a", "f/1", kept+"; "+kept+"."), module(t, "m", "f/1", kept+"; f(X) -> {X, X}, {Y, Z} = new(X), {Y, Z}. new(X) -> Y = {X, X}, Z = {X, X}, {Y, Z}.")})
		spoilProgram(got)
	})
	if impl.Show(p[1]) != impl.Show(module(t, "m", "f/1", kept+"; "+kept+".")) {
		t.Error("written into", impl.Show(p[1]))
	}
	checkCutCode(t, p, place("m", "f", 1, 1), 1, 2, "f", impl.EdTaken)
}

// Nothing is kept: changes beside one another do not see each other.
func TestExtractsApart(t *testing.T) {
	p := []impl.Module{module(t, "a", "f/1", "f(X) -> m:f(X)."), module(t, "m", "f/1", "f(X) -> Y = {X}, Z = {Y, X}, put(Z), {X, Y}.")}
	type asked struct {
		from, count int
		name        string
	}
	list := []asked{{0, 1, "one"}, {0, 2, "two"}, {1, 1, "f"}, {1, 2, "three"}, {2, 1, "put"}, {0, 4, "four"}, {3, 1, "One"}, {4, 1, "five"}}
	told := checkAlongside(t, len(list), func(i int) string {
		got, code := impl.Extract(p, place("m", "f", 1, 0), list[i].from, list[i].count, list[i].name)
		return impl.CodeText(code) + " " + programTextOf(got)
	})
	if !strings.HasSuffix(told[1], "f(X) -> {Y, Z} = two(X), put(Z), {X, Y}.\ntwo(X) -> Y = {X}, Z = {Y, X}, {Y, Z}.\n") {
		t.Error("changes", told)
	}
}
