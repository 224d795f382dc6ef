package tests

import (
	"math"
	"slices"
	"strconv"
	"strings"
	"testing"

	"loop.example/g00377/impl"
)

func checkFresh(t *testing.T, used []string, n int, want string) {
	t.Helper()
	if got := strings.Join(impl.Fresh(used, n), " "); got != want {
		t.Errorf("%d that are not among %q are %s, not %s", n, used, got, want)
	}
}

// firstNames are I1, I2 and so on, from one number to another.
func firstNames(from, to int) []string {
	list := []string{}
	for i := from; i <= to; i++ {
		list = append(list, "I"+strconv.Itoa(i))
	}
	return list
}

func TestFresh(t *testing.T) {
	for _, k := range []struct {
		used string
		n    int
		want string
	}{
		{"", 0, ""}, {"", 1, "I1"}, {"", 2, "I1 I2"}, {"", 12, "I1 I2 I3 I4 I5 I6 I7 I8 I9 I10 I11 I12"},
		{"I1", 0, ""}, {"I1", 1, "I2"}, {"I1", 3, "I2 I3 I4"}, {"I2", 1, "I1"}, {"I2", 2, "I1 I3"},
		{"I1 I2 I3", 1, "I4"}, {"I3 I1 I2", 2, "I4 I5"}, {"I2 I4 I6", 4, "I1 I3 I5 I7"}, {"I10 I1", 10, "I2 I3 I4 I5 I6 I7 I8 I9 I11 I12"},
		// Twice among used, and others there.
		{"I1 I1 I3 I1 I3", 3, "I2 I4 I5"}, {"A B C", 2, "I1 I2"}, {"Z I2 A I2", 2, "I1 I3"},
		{"I i1 I01 I1a I0 I-1 _I1 1 I+1 I1_ II1", 3, "I1 I2 I3"}, {"I9 I99 I999", 1, "I1"},
	} {
		checkFresh(t, strings.Fields(k.used), k.n, k.want)
	}
	checkFresh(t, []string{"", "I1 ", " I1", "I1\n", "I1\x00", "\xff", "I\xff", "I2 I1", "İ1", "I１"}, 2, "I1 I2")
	checkFresh(t, []string{"", "", "I1"}, 1, "I2")
}

// 60 names may be asked for, 61 not.
func TestFreshLimits(t *testing.T) {
	many := firstNames(1, 5000)
	for _, used := range [][]string{nil, {}, {"A"}} {
		checkFresh(t, used, 59, strings.Join(firstNames(1, 59), " "))
		checkFresh(t, used, 60, strings.Join(firstNames(1, 60), " "))
	}
	checkFresh(t, firstNames(1, 60), 60, strings.Join(firstNames(61, 120), " "))
	checkFresh(t, firstNames(2, 61), 60, "I1 "+strings.Join(firstNames(62, 120), " "))
	checkFresh(t, many, 1, "I5001")
	checkFresh(t, many, 60, strings.Join(firstNames(5001, 5060), " "))
	checkFresh(t, many[1:], 2, "I1 I5001")
	for _, n := range []int{61, 62, 100, -1, -2, -60, math.MaxInt, math.MinInt, 1 << 32, 1<<32 + 1, -1 << 32, 256, 65536 + 1} {
		for _, used := range [][]string{nil, {}, {"I1"}, many} {
			checkFresh(t, used, n, "")
		}
	}
	checkFresh(t, many, 0, "")
}

// Any names and numbers have an answer, which shares no memory with the names, and nothing is written into these.
func TestAnyFresh(t *testing.T) {
	m := newMaker(91)
	for range 1500 {
		used := []string{}
		for range m.Intn(40) {
			used = append(used, pickOf(m, []string{"I" + strconv.Itoa(m.Intn(30)), "I0" + strconv.Itoa(m.Intn(9)), pickOf(m, oddNames), pickOf(m, cutNames)}))
		}
		n := pickOf(m, []int{m.Intn(61), m.Intn(6), m.Intn(200) - 70, pickOf(m, oddNumbers)})
		want := ""
		if n >= 0 && n <= 60 {
			want = strings.Join(unusedNames(used, n), " ")
		}
		checkUntouched(t, used, func(used []string) {
			checkFresh(t, used, n, want)
			got := impl.Fresh(used, n)
			checkApart(t, got, used)
			clear(got)
			checkFresh(t, used, n, want)
		})
	}
}

// inlay is a clause of f/1, what becomes of it where a body stands for EXP n, and the functions that it calls.
type inlay struct {
	n      int
	before string
	after  string
	called string
}

func TestInline(t *testing.T) {
	for _, k := range []inlay{
		// By itself and in a match; the first EXP, the last, one in the middle, the only one.
		{0, "f(A) -> g(A)", "f(A) -> I1 = A, {I1}", "g(X) -> {X}."},
		{0, "f(A) -> g(A), 2, A", "f(A) -> I1 = A, {I1}, 2, A", "g(X) -> {X}."},
		{1, "f(A) -> 1, g(A), A", "f(A) -> 1, I1 = A, {I1}, A", "g(X) -> {X}."},
		{2, "f(A) -> 1, 2, g(A)", "f(A) -> 1, 2, I1 = A, {I1}", "g(X) -> {X}."},
		{0, "f(A) -> B = g(A)", "f(A) -> I1 = A, B = {I1}", "g(X) -> {X}."},
		{0, "f(A) -> B = g(A), 2, B", "f(A) -> I1 = A, B = {I1}, 2, B", "g(X) -> {X}."},
		{1, "f(A) -> 1, B = g(A), B", "f(A) -> 1, I1 = A, B = {I1}, B", "g(X) -> {X}."},
		{1, "f(A) -> 1, {B, [C | _]} = g(A)", "f(A) -> 1, I1 = A, {B, [C | _]} = {I1}", "g(X) -> {X}."},
		// No parameters, one and several; a body of one EXP and of several.
		{0, "f(A) -> g(), A", "f(A) -> 1, A", "g() -> 1."},
		{0, "f(A) -> B = g(), {A, B}", "f(A) -> B = a, {A, B}", "g() -> a."},
		{0, "f(A) -> g(), A", "f(A) -> I1 = 1, put(I1), {I1}, A", "g() -> X = 1, put(X), {X}."},
		{0, "f(A) -> 4 = g(), A", "f(A) -> I1 = 1, put(I1), 4 = {I1}, A", "g() -> X = 1, put(X), {X}."},
		{0, "f(A) -> g(A), A", "f(A) -> I1 = A, put(I1), I1, A", "g(X) -> put(X), X."},
		{0, "f(A) -> g(1, A), A", "f(A) -> I1 = 1, I2 = A, {I2, I1}, A", "g(X, Y) -> {Y, X}."},
		{0, "f(A) -> g(1, A), A", "f(A) -> I2 = 1, I1 = A, {I1, I2}, A", "g(Y, X) -> {X, Y}."},
		{0, "f(A) -> B = g(1, 2, A, 4, 5, 6), B", "f(A) -> I6 = 1, I5 = 2, I4 = A, I3 = 4, I2 = 5, I1 = 6, put(I1), I7 = I6, B = [I7 | I3], B", "g(F, E, D, C, B, A) -> put(A), G = F, [G | C]."},
		// All names of the function's clause, ascending by bytes; those that it does not use, and those within its clauses.
		{0, "f(A) -> g(A, 2)", "f(A) -> I7 = A, I3 = 2, {I4, I1} = I7, I6 = [I5 = I3, I2 = I1], {I6, I2, I5, I4}", "g(X, B) -> {B1, A} = X, D = [C = B, Aa = A], {D, Aa, C, B1}."},
		{0, "f(A) -> g(A, 2)", "f(A) -> I2 = A, I1 = 2, 1", "g(Y, X) -> 1."},
		{0, "f(A) -> g(A)", "f(A) -> I1 = A, case I1 of {I2} -> I3 = I2, {I3}; I3 -> case I3 of I1 -> I3; _ -> I2 = 1, I2 end end", "g(A) -> case A of {B} -> C = B, {C}; C -> case C of A -> C; _ -> B = 1, B end end."},
		{0, "f(A) -> g(A)", "f(A) -> I2 = A, case I2 of I1 -> I1 end, I1 = 3, I1", "g(B) -> case B of A -> A end, A = 3, A."},
		// Names of the function that the clause has, too.
		{0, "f(A) -> g(1), A", "f(A) -> I1 = 1, I2 = {I1}, I2, A", "g(A) -> B = {A}, B."},
		{1, "f(A) -> B = 1, C = g(B, A), {A, B, C}", "f(A) -> B = 1, I2 = B, I1 = A, I3 = {I1}, C = {I2, I3}, {A, B, C}", "g(B, A) -> C = {A}, {B, C}."},
		{0, "f(A) -> g(A), I1 = 2, I1", "f(A) -> I2 = A, I3 = {I2}, I3, I1 = 2, I1", "g(A) -> B = {A}, B."},
		{0, "f(I2) -> g(I2), case 1 of I4 -> I4; _ -> I5 = 1 end", "f(I2) -> I1 = I2, I3 = {I1}, I6 = I3, I6, case 1 of I4 -> I4; _ -> I5 = 1 end", "g(A) -> B = {A}, C = B, C."},
		{0, "f(A) -> g(A), I2 = 1", "f(A) -> I3 = A, I1 = I3, I4 = {I1, I3}, I4, I2 = 1", "g(I2) -> I1 = I2, I3 = {I1, I2}, I3."},
		{0, "f(A) -> g(A)", "f(A) -> I2 = A, I1 = I2, I3 = {I1, I2}, I3", "g(I2) -> I1 = I2, I3 = {I1, I2}, I3."},
		{0, "f(A) -> g(A)", "f(A) -> I3 = A, I1 = 1, I2 = {I1, I3}, I2", "g(I2) -> I1 = 1, I10 = {I1, I2}, I10."},
		// Arguments of each kind.
		{0, "f(A) -> g(7, a, [])", "f(A) -> I1 = 7, I2 = a, I3 = [], {I1, I2, I3}", "g(X, Y, Z) -> {X, Y, Z}."},
		{0, "f(A) -> g({A, {1}}, [A, 1 | A], [A])", "f(A) -> I1 = {A, {1}}, I2 = [A, 1 | A], I3 = [A], {I1, I2, I3}", "g(X, Y, Z) -> {X, Y, Z}."},
		{0, "f(A) -> g(A + 1 * 2, A == 1, 1 < A)", "f(A) -> I1 = A + 1 * 2, I2 = (A == 1), I3 = (1 < A), {I1, I2, I3}", "g(X, Y, Z) -> {X, Y, Z}."},
		{0, "f(A) -> g(put(A), m:f(A), g(1, 2, A))", "f(A) -> I1 = put(A), I2 = m:f(A), I3 = g(1, 2, A), {I1, I2, I3}", "g(X, Y, Z) -> {X, Y, Z}."},
		{0, "f(A) -> g(case A of 1 -> B = 2, B; C -> C end)", "f(A) -> I1 = case A of 1 -> B = 2, B; C -> C end, I1", "g(X) -> X."},
		// Arguments that bind names, which those behind them and the EXPs behind want.
		{0, "f(A) -> g(B = A, B, C = {B}), {B, C}", "f(A) -> I1 = (B = A), I2 = B, I3 = (C = {B}), {I1, I2, I3}, {B, C}", "g(X, Y, Z) -> {X, Y, Z}."},
		{0, "f(A) -> D = g({B, C} = A, B), {B, C, D}", "f(A) -> I1 = ({B, C} = A), I2 = B, D = {I1, I2}, {B, C, D}", "g(X, Y) -> {X, Y}."},
		{0, "f(A) -> X = g(X = A), X", "f(A) -> I1 = (X = A), X = I1, X", "g(X) -> X."},
		{0, "f(A) -> {A, X, B} = g(X = A, [B | X] = A), {B, X}", "f(A) -> I1 = (X = A), I2 = ([B | X] = A), {A, X, B} = {I1, I2}, {B, X}", "g(X, Y) -> {X, Y}."},
		{0, "f(A) -> g(B = C = A, put(D = {C})), D", "f(A) -> I1 = (B = C = A), I2 = put(D = {C}), I2, D", "g(X, Y) -> Y."},
		// What stands last in the function: each kind, in a match and without one.
		{0, "f(A) -> B = g(A), B", "f(A) -> I1 = A, B = (I2 = {I1}), B", "g(X) -> Y = {X}."},
		{0, "f(A) -> g(A), A", "f(A) -> I1 = A, I2 = {I1}, A", "g(X) -> Y = {X}."},
		{0, "f(A) -> B = g(A), B", "f(A) -> I1 = A, put(I1), B = I1 + 1, B", "g(X) -> put(X), X + 1."},
		{0, "f(A) -> B = g(A), B", "f(A) -> I1 = A, B = case I1 of {I2} -> I2; _ -> I1 end, B", "g(X) -> case X of {Y} -> Y; _ -> X end."},
		{0, "f(A) -> B = g(A), B", "f(A) -> I1 = A, B = put(I1), B", "g(X) -> put(X)."},
		{0, "f(A) -> B = g(A), B", "f(A) -> I1 = A, B = [I1, 1], B", "g(X) -> [X, 1]."},
		// Calls within it: of itself, of others, of the one that it is put into.
		{0, "f(A) -> g(A), A", "f(A) -> I1 = A, g({I1}), A", "g(X) -> g({X})."},
		{0, "f(A) -> B = g(A), B", "f(A) -> I1 = A, h(I1), m:f(I1), f(I1), B = h(g(I1)), B", "g(X) -> h(X), m:f(X), f(X), h(g(X))."},
		{1, "f(A) -> B = 1, C = f({A, B}), {B, C}", "f(A) -> B = 1, I1 = {A, B}, I2 = 1, I3 = f({I1, I2}), C = {I2, I3}, {B, C}", "g(X) -> X."},
		{0, "f(A) -> f({A})", "f(A) -> I1 = {A}, f({I1})", "g(X) -> X."},
		// Of two calls alike the one that is meant.
		{1, "f(A) -> g(A), g(A), g(A)", "f(A) -> g(A), I1 = A, {I1}, g(A)", "g(X) -> {X}."},
	} {
		rest := ".\nh(X) -> X.\ng(X, Y, Z, A) -> 1.\n" + k.called
		p := alone(t, "f/1", k.before+rest)
		want := alone(t, "f/1", k.after+rest)
		got, code := impl.Inline(p, place("m", "f", 1, 0), k.n)
		checkMade(t, p, got, code, want)
	}
}

// Clauses, functions and modules beside the one that is meant stay as they are, also the one that was called.
func TestInlineInOneClause(t *testing.T) {
	clauses := []string{"f(X) -> Y = g(X), Y", "f({X, 1}) -> Y = g(X), Y", "f([X | _]) -> Y = g(X), Y"}
	text := func(at int) string {
		list := slices.Clone(clauses)
		if at >= 0 {
			list[at] = strings.Replace(list[at], "Y = g(X)", "I1 = X, I2 = {I1}, Y = {own, I2}", 1)
		}
		return strings.Join(list, ";\n") + ".\n"
	}
	program := func(at int) []impl.Module {
		return []impl.Module{
			module(t, "a", "f/1, g/1", text(-1)+"g(X) -> m:f(X)."),
			module(t, "m", "f/1, g/2", "g(X, Y) -> g(X). e(X) -> Y = g(X), Y.\n"+text(at)+"g(A) -> B = {A}, {own, B}. g() -> e(1), g(1), f(1, 2). f(X, Y) -> g(X)."),
			module(t, "z", "f/1, g/1", text(-1)+"g(X) -> X."),
		}
	}
	p := program(-1)
	for at := range clauses {
		got, code := impl.Inline(p, place("m", "f", 1, at), 0)
		checkMade(t, p, got, code, program(at))
	}
	for _, at := range []int{-1, 3, math.MaxInt, math.MinInt, 1 << 32} {
		checkInlineCode(t, p, place("m", "f", 1, at), 0, impl.EdNone)
	}
	// The function of the same name in another module is another one.
	got, code := impl.Inline(p, place("z", "f", 1, 1), 0)
	want := program(-1)
	want[2] = module(t, "z", "f/1, g/1", strings.Replace(text(-1), "f({X, 1}) -> Y = g(X)", "f({X, 1}) -> I1 = X, Y = I1", 1)+"g(X) -> X.")
	checkMade(t, p, got, code, want)
}

// One body behind the other: what was put in may be a call, too.
func TestInlineAgain(t *testing.T) {
	const rest = "g(X) -> Y = h(X, X), put(Y), Y. h(X, Y) -> Z = X + Y, Z. "
	p := alone(t, "f/1", "f(A) -> B = g(A), {A, B}. "+rest)
	at := place("m", "f", 1, 0)
	q, code := impl.Inline(p, at, 0)
	checkMade(t, p, q, code, alone(t, "f/1", "f(A) -> I1 = A, I2 = h(I1, I1), put(I2), B = I2, {A, B}. "+rest))
	r, code := impl.Inline(q, at, 1)
	checkMade(t, q, r, code, alone(t, "f/1", "f(A) -> I1 = A, I3 = I1, I4 = I1, I5 = I3 + I4, I2 = I5, put(I2), B = I2, {A, B}. "+rest))
	s, code := impl.Inline(p, place("m", "g", 1, 0), 0)
	checkMade(t, p, s, code, alone(t, "f/1", "f(A) -> B = g(A), {A, B}. g(X) -> I1 = X, I2 = X, I3 = I1 + I2, Y = I3, put(Y), Y. h(X, Y) -> Z = X + Y, Z."))
	u, code := impl.Inline(s, at, 0)
	checkMade(t, s, u, code, alone(t, "f/1", "f(A) -> I4 = A, I1 = I4, I2 = I4, I3 = I1 + I2, I5 = I3, put(I5), B = I5, {A, B}. g(X) -> I1 = X, I2 = X, I3 = I1 + I2, Y = I3, put(Y), Y. h(X, Y) -> Z = X + Y, Z."))
	for _, x := range [][]impl.Module{p, q, r, s, u} {
		checkRun(t, x, []impl.Val{numVal(4)}, "ok {4, 8} >8")
		checkRun(t, x, []impl.Val{atomVal("a")}, "fail badarith")
	}
}

// A part that was cut out is put back: by other names, but it does the same.
func TestInlineOfCutParts(t *testing.T) {
	p := alone(t, "f/2", "f(A, B) -> C = A + B, put(C), D = {C, A}, put(D), {D, B, C}.")
	at := place("m", "f", 2, 0)
	for _, k := range []struct {
		from, count int
		want        string
	}{
		{0, 1, "I1 = A, I2 = B, I3 = I1 + I2, C = I3, put(C), D = {C, A}, put(D), {D, B, C}"},
		{0, 3, "I1 = A, I2 = B, I3 = I1 + I2, put(I3), I4 = {I3, I1}, {C, D} = {I3, I4}, put(D), {D, B, C}"},
		{1, 1, "C = A + B, I1 = C, put(I1), D = {C, A}, put(D), {D, B, C}"},
		{1, 3, "C = A + B, I1 = A, I2 = C, put(I2), I3 = {I2, I1}, put(I3), D = I3, {D, B, C}"},
		{0, 5, "I1 = A, I2 = B, I3 = I1 + I2, put(I3), I4 = {I3, I1}, put(I4), {I4, I2, I3}"},
	} {
		cut, code := impl.Extract(p, at, k.from, k.count, "part")
		if code != impl.EdOk {
			t.Fatal(code)
		}
		got, code := impl.Inline(cut, at, k.from)
		want := roomy(cut)
		want[0].Funs[0] = alone(t, "f/2", "f(A, B) -> "+k.want+".")[0].Funs[0]
		checkMade(t, cut, got, code, want)
		for _, x := range [][]impl.Module{p, cut, got} {
			checkRun(t, x, []impl.Val{numVal(2), numVal(3)}, "ok {{5, 2}, 3, 5} >5 >{5, 2}")
			checkRun(t, x, []impl.Val{numVal(2), atomVal("b")}, "fail badarith")
		}
	}
}

// put/1 is no function, but where the module has one of its own.
func TestInlineAndPut(t *testing.T) {
	p := []impl.Module{module(t, "a", "f/1", "f(X) -> put(X), Y = put({X}), Y."), module(t, "m", "f/1, put/1", "f(X) -> put(X), Y = put({X}), a:f(Y). put(X) -> {own, X}.")}
	checkInlineCode(t, p, place("a", "f", 1, 0), 0, impl.EdShape)
	checkInlineCode(t, p, place("a", "f", 1, 0), 1, impl.EdShape)
	got, code := impl.Inline(p, place("m", "f", 1, 0), 1)
	checkMade(t, p, got, code, []impl.Module{p[0], module(t, "m", "f/1, put/1", "f(X) -> put(X), I1 = {X}, Y = {own, I1}, a:f(Y). put(X) -> {own, X}.")})
	again, code := impl.Inline(got, place("m", "f", 1, 0), 0)
	checkMade(t, got, again, code, []impl.Module{p[0], module(t, "m", "f/1, put/1", "f(X) -> I2 = X, {own, I2}, I1 = {X}, Y = {own, I1}, a:f(Y). put(X) -> {own, X}.")})
	for _, x := range [][]impl.Module{p, got, again} {
		checkRun(t, x, []impl.Val{numVal(1)}, "ok {{own, {1}}} >{own, {1}} >{{own, {1}}}")
	}
	// Functions put of another number of parameters are none of put/1.
	q := alone(t, "f/1", "f(X) -> put(X), put(), put(X, 1). put() -> put(2). put(X, Y) -> {X, Y}.")
	checkInlineCode(t, q, place("m", "f", 1, 0), 0, impl.EdShape)
	checkInlineCode(t, q, place("m", "put", 0, 0), 0, impl.EdShape)
	got, code = impl.Inline(q, place("m", "f", 1, 0), 1)
	checkMade(t, q, got, code, alone(t, "f/1", "f(X) -> put(X), put(2), put(X, 1). put() -> put(2). put(X, Y) -> {X, Y}."))
	got, code = impl.Inline(q, place("m", "f", 1, 0), 2)
	checkMade(t, q, got, code, alone(t, "f/1", "f(X) -> put(X), put(), I1 = X, I2 = 1, {I1, I2}. put() -> put(2). put(X, Y) -> {X, Y}."))
}

func checkInlineCode(t *testing.T, p []impl.Module, at impl.Place, n int, want int) {
	t.Helper()
	got, code := impl.Inline(p, at, n)
	checkRefused(t, plain(at)+" "+strconv.Itoa(n), p, got, code, want)
}

// farNumbers are those of no EXP, whatever the body.
var farNumbers = []int{-1, -2, 20, 21, math.MaxInt, math.MinInt, 1 << 32, -1 << 32, 1<<32 + 1, 256, -256}

func TestInlineCodes(t *testing.T) {
	good, bad := cutCodes(t)
	at := place("m", "f", 2, 0)
	for _, p := range bad {
		for _, n := range append(farNumbers, 0, 1, 2, 3) {
			checkInlineCode(t, p, at, n, impl.EdBad)
			checkInlineCode(t, p, place("q", "f", 2, 9), n, impl.EdBad)
		}
	}
	for _, wrong := range placesOfNothing {
		for _, n := range append(farNumbers, 0, 1, 2) {
			checkInlineCode(t, good, wrong, n, impl.EdNone)
		}
	}
	for _, n := range append(farNumbers, 3, 4) {
		checkInlineCode(t, good, at, n, impl.EdNone)
		checkInlineCode(t, nil, at, n, impl.EdNone)
		checkInlineCode(t, []impl.Module{}, at, n, impl.EdNone)
	}
	// The second clause has one EXP, the third two.
	checkInlineCode(t, good, place("m", "f", 2, 1), 1, impl.EdNone)
	checkInlineCode(t, good, place("m", "f", 2, 2), 2, impl.EdNone)
	checkInlineCode(t, good, place("m", "f", 2, 1), 0, impl.EdShape)
	checkInlineCode(t, good, place("m", "f", 2, 2), 1, impl.EdShape)
	checkInlineCode(t, good, at, 0, impl.EdShape)
	checkInlineCode(t, good, at, 2, impl.EdShape)
	checkInlineCode(t, good, place("a", "f", 1, 0), 0, impl.EdShape)
	got, code := impl.Inline(good, at, 1)
	checkMade(t, good, got, code, []impl.Module{good[0], module(t, "m", "f/2, g/0", "f(X, Y) -> Z = X, 1, {Z, Y}; f(_, 1) -> 1; f(_, _) -> 1, 2. g() -> 1. h(X) -> X.")})
}

// EXPs that are no call of a function of that module, and functions that a body can't stand for.
func TestInlineShape(t *testing.T) {
	const called = "ok(X) -> X. none() -> 1. two(0) -> 1; two(X) -> X. alike(_) -> 1; alike(X) -> X. same(X) -> X; same(X) -> X. " +
		"number(1) -> 1. atom(a) -> 1. any(_) -> 1. empty([]) -> 1. tuple({X}) -> X. list([X | Y]) -> X. later(X, _) -> X. last(X, Y, {Z}) -> X. " +
		"twice(X, X) -> X. apart(X, Y, X) -> X. end_(X, Y, Z, Y) -> X. again(0) -> 1; again(0) -> 2. "
	for _, e := range []string{
		// No call, whatever stands within it, or whatever has its name.
		"1", "a", "none", "ok", "A", "[]", "{A}", "{ok(A)}", "[ok(A)]", "[A | ok(A)]", "ok(A) + 1", "1 - none()", "ok(A) == none()", "case ok(A) of X -> X end", "case A of 1 -> ok(A); _ -> none() end",
		// A call with a module's name, also that of its own, and put/1.
		"m:ok(A)", "m:none()", "z:ok(A)", "put(A)", "put(ok(A))", "put(none())",
		// In a match within a match, which has another match for its second kid.
		"C = D = ok(A)", "C = (D = none())", "{C} = [D] = ok(A)",
		// Another number of clauses, and other patterns.
		"two(A)", "alike(A)", "same(A)", "again(0)", "number(1)", "atom(a)", "any(A)", "empty([])", "tuple({A})", "list([A])", "later(A, 1)", "last(1, A, {A})", "twice(A, A)", "twice(1, 1)", "apart(A, 2, A)", "end_(1, A, 3, A)",
	} {
		for _, around := range []string{"", "B = ", "{B, _} = ", "_ = ", "1 = ", "A = "} {
			p := []impl.Module{module(t, "m", "none/0, ok/1", "f(A) -> ok(A), "+around+e+", none(). "+called), module(t, "z", "ok/1", "ok(X) -> X.")}
			checkInlineCode(t, p, place("m", "f", 1, 0), 1, impl.EdShape)
			checkInlineCode(t, p, place("m", "f", 1, 0), 3, impl.EdNone)
			for _, n := range []int{0, 2} {
				if _, code := impl.Inline(p, place("m", "f", 1, 0), n); code != impl.EdOk {
					t.Error(e, n, code)
				}
			}
		}
	}
}

// long is a program of a body with so many EXPs, the first of which is a call of g with so many parameters and EXPs.
func long(t *testing.T, exps, params, body int) []impl.Module {
	t.Helper()
	kids := manyTexts(params, ", ", same("A"))
	return alone(t, "f/1", "f(A) -> "+manyTexts(exps-1, "", func(i int) string { return strconv.Itoa(i) + ", " })+"g("+kids+"). g("+manyTexts(params, ", ", numbered("X"))+") -> "+manyTexts(body, ", ", same("7"))+".")
}

// A body of 20 EXPs may be, one of 21 not.
func TestInlineFullBody(t *testing.T) {
	for _, k := range [][3]int{{1, 0, 20}, {20, 0, 1}, {20, 1, 1}, {19, 1, 1}, {1, 1, 19}, {1, 1, 20}, {1, 6, 14}, {1, 6, 15}, {14, 6, 1}, {15, 6, 1}, {10, 1, 10}, {10, 2, 10}, {10, 0, 11}, {10, 0, 12}, {20, 6, 20}, {2, 0, 19}, {2, 0, 20}} {
		p := long(t, k[0], k[1], k[2])
		at, n := place("m", "f", 1, 0), k[0]-1
		count := k[0] - 1 + k[1] + k[2]
		if count > 20 {
			checkInlineCode(t, p, at, n, impl.EdFull)
			checkInlineCode(t, p, at, n+1, impl.EdNone)
			if n > 0 {
				checkInlineCode(t, p, at, n-1, impl.EdShape)
			}
			continue
		}
		got, code := impl.Inline(p, at, n)
		if code != impl.EdOk || !impl.Good(got) || len(clauseIn(got, at).Body) != count {
			t.Error(k, code)
		}
		checkRun(t, got, []impl.Val{numVal(1)}, "ok 7")
	}
	// Where the function has not the shape, that is named ahead.
	p := long(t, 20, 6, 20)
	p[0].Funs[1].Clauses[0].Pats[5] = anyOne()
	checkInlineCode(t, p, place("m", "f", 1, 0), 19, impl.EdShape)
	p[0].Funs[1].Clauses[0].Pats[5] = p[0].Funs[1].Clauses[0].Pats[0]
	checkInlineCode(t, p, place("m", "f", 1, 0), 19, impl.EdShape)
}

// wide is a function of one parameter with so many names.
func wide(names int) string {
	parts := []string{}
	for done := 1; done < names; done += 20 {
		parts = append(parts, "{"+manyTexts(min(20, names-done), ", ", func(i int) string { return "X" + strconv.Itoa(done+i) })+"} = A")
	}
	return "g(A) -> " + strings.Join(append(parts, "A"), ", ") + "."
}

// A function of 60 names may be, one of 61 not; how many the clause has does not matter.
func TestInlineFullNames(t *testing.T) {
	used := manyTexts(20, ", ", func(i int) string { return "I" + strconv.Itoa(i+1) })
	for _, f := range []string{"f(A) -> g(A).", "f(A) -> B = g(A), B.", "f(A) -> {" + used + "} = A, g(A).", "f(A) -> {" + used + "} = A, {B, " + strings.ReplaceAll(used, "I", "I2")[4:] + "} = g(A)."} {
		n := strings.Count(f, "} = A,")
		for _, names := range []int{1, 2, 59, 60} {
			p := alone(t, "f/1", f+" "+wide(names))
			got, code := impl.Inline(p, place("m", "f", 1, 0), n)
			vars := impl.VarsAt(p, place("m", "f", 1, 0))
			want := slices.Concat(vars, unusedNames(vars, names))
			if code != impl.EdOk || !impl.Good(got) || !slices.Equal(impl.VarsAt(got, place("m", "f", 1, 0)), sortedOnce(want)) {
				t.Error(f, names, code)
			}
		}
		for _, names := range []int{61, 62, 80, 200} {
			p := alone(t, "f/1", f+" "+wide(names))
			checkInlineCode(t, p, place("m", "f", 1, 0), n, impl.EdFull)
			checkInlineCode(t, p, place("m", "f", 1, 0), n+2, impl.EdNone)
		}
	}
	p := alone(t, "f/1", "f(A) -> g(A). "+wide(61)[:len(wide(61))-1]+"; g(B) -> B.")
	checkInlineCode(t, p, place("m", "f", 1, 0), 0, impl.EdShape)
}

// What stands last in the function is one deeper in a match, all else is not.
func TestInlineFullDepth(t *testing.T) {
	withBody := func(e impl.Exp, list ...impl.Exp) []impl.Module {
		f := impl.Fun{Name: "f", Arity: 1, Clauses: []impl.Clause{clause(only(variable("A")), e)}}
		g := impl.Fun{Name: "g", Arity: 1, Clauses: []impl.Clause{clause(only(variable("X")), list...)}}
		return []impl.Module{{Name: "m", Exports: []impl.Ref{{Name: "f", Arity: 1}}, Funs: []impl.Fun{f, g}}}
	}
	at := place("m", "f", 1, 0)
	plainCall, inMatch := call("", "g", variable("A")), match(variable("B"), call("", "g", variable("A")))
	for _, k := range []struct {
		p    []impl.Module
		want int
	}{
		{withBody(plainCall, deepExp(40)), impl.EdOk},
		{withBody(plainCall, deepExp(40), deepExp(40)), impl.EdOk},
		{withBody(inMatch, deepExp(38)), impl.EdOk},
		{withBody(inMatch, deepExp(39)), impl.EdOk},
		{withBody(inMatch, deepExp(40)), impl.EdFull},
		{withBody(inMatch, deepExp(40), num(1)), impl.EdOk},
		{withBody(inMatch, num(1), deepExp(40)), impl.EdFull},
		{withBody(call("", "g", match(variable("X"), deepOf(variable("A"), 38))), num(1)), impl.EdOk},
		{withBody(call("", "g", deepOf(variable("A"), 39)), num(1)), impl.EdOk},
		{withBody(match(variable("B"), call("", "g", deepOf(variable("A"), 38))), deepExp(39)), impl.EdOk},
		{withBody(match(deepOf(variable("B"), 39), call("", "g", variable("A"))), deepExp(39)), impl.EdOk},
		{withBody(match(deepOf(variable("B"), 39), call("", "g", variable("A"))), deepExp(40)), impl.EdFull},
	} {
		if !impl.Good(k.p) {
			t.Fatal("not good", programTextOf(k.p))
		}
		if k.want != impl.EdOk {
			checkInlineCode(t, k.p, at, 0, k.want)
			continue
		}
		if got, code := impl.Inline(k.p, at, 0); code != impl.EdOk || !impl.Good(got) {
			t.Error(code, programTextOf(k.p))
		}
	}
}

func deepOf(e impl.Exp, deep int) impl.Exp {
	for range deep {
		e = tuple(e)
	}
	return e
}

// A program that meets every limit beside the body takes one, and its own call of a full function is refused.
func TestInlineAtTheLimits(t *testing.T) {
	p := []impl.Module{fullModule("m0"), fullModule("m9")}
	f := &p[1].Funs[29]
	f.Clauses = []impl.Clause{clause(f.Clauses[0].Pats, f.Clauses[0].Body[:14]...)}
	caller := &p[1].Funs[28].Clauses[19]
	kids := []impl.Exp{variable("A"), variable("B"), variable("C"), variable("D"), variable("E"), variable("F")}
	caller.Body = only(call("", "f29", kids...))
	at := place("m9", "f28", 6, 19)
	got, code := impl.Inline(p, at, 0)
	if code != impl.EdOk || !impl.Good(got) || len(clauseIn(got, at).Body) != 20 || len(impl.VarsAt(got, at)) != 12 {
		t.Error(code)
	}
	caller.Body = append(caller.Body, num(1))
	checkInlineCode(t, p, at, 0, impl.EdFull)
	checkInlineCode(t, p, at, 1, impl.EdShape)
	caller.Body = only(call("", "f0", kids...))
	checkInlineCode(t, p, at, 0, impl.EdShape)
}

// P9: each call of each body of programs that answer, fail and put something out.
func TestEachCallDoesTheSame(t *testing.T) {
	main := module(t, "main", "loop/1, pick/2, run/2, sum/1", "run(L, Low) -> R = turned(L), {M, N} = both(R, Q = {Low, put(L)}), S = sum(M), {Low, _} = Q, choose(S, Low, N); run(L, _) -> put(L), same(L). "+
		"turned(L) -> put(turned), util:rev(L). both(L, Q) -> M = doubled(L), N = sum(L), put({N, Q}), {M, N}. doubled(L) -> case L of [] -> []; [H | T] -> D = dbl(H), E = doubled(T), [D | E] end. "+
		"dbl(X) -> Y = X + X, Z = pair(Y, X), put(Z), {Y, X} = same(Z), Y. pair(Y, X) -> {Y, X}. same(X) -> X. sum(L) -> case L of [] -> 0; [H | T] -> H + sum(T) end. "+
		"choose(S, Low, N) -> case S of Low -> none; N -> put({all, N}), {N, S}; Other -> T = Other - N, put(T), [T, S | N] end. "+
		"pick({A, B}, A) -> same(C = B), D = pair(A, E = C), A = same(E), {A, C, D, E}; pick(A, B) -> X = pair(Y = A, Z = {Y}), W = tested(B, Y, I1 = Z), same(I1), {W, X, Z, Y, I1}. "+
		"tested(B, Y, I1) -> case B of Y -> put(I1), W = I1; _ -> W = 1 end, {W, Q} = pair(B, Y), {W, Q}. "+
		"loop(0) -> done; loop(N) -> put(N), less(N). less(N) -> M = N - 1, loop(M).")
	util := module(t, "util", "rev/1", "rev(L) -> put(rev), begin(L). begin(L) -> rev(L, []). rev([], Done) -> Done; rev([H | T], Done) -> told(H), Next = next(H, Done), R = rev(T, Next), R. told(X) -> put(X). next(H, T) -> [H | T].")
	p := []impl.Module{main, util}
	three, odd := consVal(numVal(3), consVal(numVal(5), nilVal())), consVal(numVal(3), atomVal("a"))
	starts := []start{
		{"main", "run", []impl.Val{three, numVal(0)}}, {"main", "run", []impl.Val{nilVal(), numVal(0)}}, {"main", "run", []impl.Val{nilVal(), numVal(1)}}, {"main", "run", []impl.Val{odd, numVal(0)}}, {"main", "run", []impl.Val{three, numVal(16)}},
		{"main", "sum", []impl.Val{three}}, {"main", "sum", []impl.Val{odd}}, {"main", "loop", []impl.Val{numVal(4)}}, {"main", "loop", []impl.Val{atomVal("a")}},
		{"main", "pick", []impl.Val{tupleVal(numVal(1), numVal(1)), numVal(1)}}, {"main", "pick", []impl.Val{tupleVal(numVal(1), numVal(2)), numVal(1)}}, {"main", "pick", []impl.Val{numVal(1), numVal(1)}}, {"main", "pick", []impl.Val{numVal(1), numVal(2)}},
		{"util", "rev", []impl.Val{three}}, {"util", "rev", []impl.Val{odd}},
	}
	codes, changes := map[int]int{}, 0
	for at, c := range clausesOf(p) {
		for n := range c.Body {
			q, code := impl.Inline(p, at, n)
			if want := slowInlineCode(p, at, n); code != want {
				t.Fatalf("%+v: EXP %d is %d, not %d", at, n, code, want)
			}
			if code != impl.EdOk {
				continue
			}
			changes++
			for _, s := range starts {
				codes[checkDoesTheSame(t, p, q, s, 400).Code]++
			}
		}
	}
	if changes < 20 || codes[impl.RunOk] < 200 || codes[impl.RunFail] < 100 || codes[impl.RunFuel] > 0 {
		t.Error("too few", changes, codes)
	}
	checkRunOf(t, p, "main", "run", starts[0].args, enough, "ok [8 | [16 | 8]] >turned >rev >3 >5 >[3 | [5 | []]] >{10, 5} >{6, 3} >{8, {0, [3 | [5 | []]]}} >8")
}

// P9: it takes no more calls within calls; where they were just enough, they are.
func TestInlineTakesFewerCalls(t *testing.T) {
	p := alone(t, "f/1", "f(0) -> done; f(N) -> g(N). g(N) -> M = N - 1, f(M).")
	q, code := impl.Inline(p, place("m", "f", 1, 1), 0)
	checkMade(t, p, q, code, alone(t, "f/1", "f(0) -> done; f(N) -> I2 = N, I1 = I2 - 1, f(I1). g(N) -> M = N - 1, f(M)."))
	r, code := impl.Inline(p, place("m", "g", 1, 0), 1)
	checkRefused(t, "f/1", p, r, code, impl.EdShape)
	checkRun(t, p, []impl.Val{numVal(99)}, "ok done")
	checkRun(t, p, []impl.Val{numVal(100)}, "fuel")
	checkRun(t, q, []impl.Val{numVal(99)}, "ok done")
	checkRun(t, q, []impl.Val{numVal(199)}, "ok done")
	checkRun(t, q, []impl.Val{numVal(200)}, "fuel")
}

// P9: values as large as there may be go through the names that stand for parameters.
func TestInlineOfLargeValues(t *testing.T) {
	p := alone(t, "f/1", "f(A) -> X = g(A, {A}), {Y} = X, Y == A. g(A, B) -> put(1), B.")
	q, code := impl.Inline(p, place("m", "f", 1, 0), 0)
	checkMade(t, p, q, code, alone(t, "f/1", "f(A) -> I1 = A, I2 = {A}, put(1), X = I2, {Y} = X, Y == A. g(A, B) -> put(1), B."))
	for _, x := range [][]impl.Module{p, q} {
		checkRun(t, x, []impl.Val{ofParts(1999)}, "ok true >1")
		checkRun(t, x, []impl.Val{ofParts(2000)}, "fuel")
	}
}

// P9: programs that are made, and bodies in the place of calls, one behind the other; and parts cut out and put back.
func TestMadeCallsDoTheSame(t *testing.T) {
	m := newMaker(92)
	told := map[string]int{}
	for i := range 2000 {
		// A cut lays one more call around each, and those of a program that turns round may be many.
		p, little := m.inlinable(), 300
		if i%4 == 0 {
			p, little = m.goodRunnable(), 35
		}
		q := p
		for j := range 1 + m.Intn(4) {
			at, n := m.callPlace(q)
			if m.Intn(4) == 0 {
				from, count := m.cutOf(clauseIn(q, at))
				cut, code := impl.Extract(q, at, from, count, "n"+strconv.Itoa(j))
				if code == impl.EdOk {
					q, n = cut, from
					told["put back"]++
				}
			}
			want := slowInlineCode(q, at, n)
			made, code := impl.Inline(q, at, n)
			told[impl.CodeText(code)]++
			if code != want || !impl.Good(made) {
				t.Fatalf("%s%+v EXP %d is %d, not %d", programTextOf(q), at, n, code, want)
			}
			q = made
		}
		for _, mod := range p {
			for _, ref := range mod.Exports {
				r := checkDoesTheSame(t, p, q, start{mod.Name, ref.Name, m.vals(ref.Arity, 1)}, little)
				told["run "+impl.CodeText(r.Code)]++
				told["out"] += min(1, len(r.Out))
			}
		}
	}
	checkKinds(t, told, 200, "ok", "shape", "put back", "run ok", "run bad", "run none", "out")
}

// What comes out against the words that a program is shown with.
func TestInlineAgainstWords(t *testing.T) {
	m := newMaker(93)
	told := map[string]int{}
	for i := range 2500 {
		p := m.inlinable()
		if i%4 == 0 {
			p = m.goodProgram()
		}
		if len(p) == 0 {
			continue
		}
		at, n := m.callPlace(p)
		if i%8 == 1 {
			p[0].Funs[m.Intn(len(p[0].Funs))].Clauses[0].Body = m.inlinable()[0].Funs[0].Clauses[0].Body
		}
		if !impl.Good(p) || n >= len(clauseIn(p, at).Body) {
			continue
		}
		want, refusal := rewordedCall(t, p, at, n)
		got, code := impl.Inline(p, at, n)
		told[impl.CodeText(code)]++
		if e := clauseIn(p, at).Body[n]; code == impl.EdOk && e.Kind == impl.ExMatch {
			told["match"]++
		}
		if refusal != impl.EdOk {
			checkRefused(t, strconv.Itoa(n), p, got, code, refusal)
		} else if text := wordsText(programWords(t, got)); code != impl.EdOk || text != want {
			t.Fatalf("%s%+v EXP %d is (%d)\n%snot\n%s", programTextOf(p), at, n, code, text, want)
		}
	}
	checkKinds(t, told, 200, "ok", "shape", "match")
}

// What was reached is reached still, but for the function whose only call it was; nothing else is.
func TestInlineKeepsWhatIsReached(t *testing.T) {
	m := newMaker(94)
	made := 0
	for range 600 {
		p := m.inlinable()
		at, n := m.callPlace(p)
		got, code := impl.Inline(p, at, n)
		if code != impl.EdOk {
			continue
		}
		made++
		e := clauseIn(p, at).Body[n]
		if e.Kind == impl.ExMatch {
			e = e.Kids[1]
		}
		called := target{at.Mod, e.Text, len(e.Kids)}.text()
		before, after := impl.Reached(p), impl.Reached(got)
		for _, name := range before {
			if name != called && !slices.Contains(after, name) {
				t.Fatalf("%s is not reached any more in\n%s", name, programTextOf(got))
			}
		}
		for _, name := range after {
			if !slices.Contains(before, name) {
				t.Fatalf("%s is reached in\n%s", name, programTextOf(got))
			}
		}
	}
	if made < 200 {
		t.Error("too few", made)
	}
}

// slowInlineCode goes through what the document says of each code, in its order.
func slowInlineCode(p []impl.Module, at impl.Place, n int) int {
	if !impl.Good(p) {
		return impl.EdBad
	}
	body := clauseIn(p, at).Body
	if n < 0 || n >= len(body) {
		return impl.EdNone
	}
	e, deeper := body[n], 0
	if e.Kind == impl.ExMatch {
		e, deeper = e.Kids[1], 1
	}
	called := clausesIn(p, impl.Place{Mod: at.Mod, Name: e.Text, Arity: len(e.Kids)})
	if e.Kind != impl.ExCall || e.Mod != "" || len(called) != 1 {
		return impl.EdShape
	}
	c, seen := called[0], ""
	for _, pat := range c.Pats {
		if pat.Kind != impl.ExVar || strings.Contains(seen, " "+pat.Text+" ") {
			return impl.EdShape
		}
		seen += " " + pat.Text + " "
	}
	last := c.Body[len(c.Body)-1]
	vars := impl.Vars(tuple(slices.Concat(c.Pats, c.Body)...))
	if len(vars) > 60 || len(body)-1+len(c.Pats)+len(c.Body) > 20 || depthOf(last)+deeper > impl.MaxDeep {
		return impl.EdFull
	}
	return impl.EdOk
}

func depthOf(e impl.Exp) int {
	deep := 0
	for _, kid := range e.Kids {
		deep = max(deep, 1+depthOf(kid))
	}
	for _, c := range e.Clauses {
		for _, inner := range slices.Concat(c.Pats, c.Body) {
			deep = max(deep, 1+depthOf(inner))
		}
	}
	return deep
}

// Any programs, places and numbers have an answer, and the same one each time.
func TestAnyInline(t *testing.T) {
	m := newMaker(95)
	told := map[string]int{}
	for i := range 4000 {
		p := m.anyProgram(i)
		if i%5 == 1 || i%5 == 2 {
			p = m.inlinable()
		}
		at, n := m.oddPlace(p), m.Intn(4)
		if i%5 == 1 {
			at, n = m.callPlace(p)
		}
		if m.Intn(4) == 0 {
			n = pickOf(m, oddNumbers)
		}
		got, code := impl.Inline(p, at, n)
		told[impl.CodeText(code)]++
		if want := slowInlineCode(p, at, n); want != impl.EdOk || code != impl.EdOk {
			checkRefused(t, strconv.Itoa(n), p, got, code, want)
		} else if !impl.Good(got) {
			t.Errorf("%sis not good", programTextOf(got))
		}
		if again, same := impl.Inline(p, at, n); same != code || !sameProgram(got, again) {
			t.Errorf("another answer: %+v %d %s", at, n, programTextOf(p))
		}
	}
	checkKinds(t, told, 100, "ok", "bad", "none", "shape")
}

// Programs that are none, each wrong in one way.
func TestInlineOfNoProgram(t *testing.T) {
	good := []impl.Module{module(t, "a", "f/1", "f(X) -> X."), module(t, "m", "f/1", "f(X) -> a:f(X). g(X) -> f(X)."), module(t, "z", "f/1", "f(X) -> X.")}
	if _, code := impl.Inline(good, place("m", "g", 1, 0), 0); code != impl.EdOk {
		t.Fatal(code)
	}
	for at := range good {
		for what, spoil := range spoilings() {
			p := roomy(good)
			spoil(&p[at])
			checkUntouched(t, p, func(p []impl.Module) {
				got, code := impl.Inline(p, place("m", "g", 1, 0), 0)
				checkBad(t, what, p, got, code)
			})
		}
	}
	p := []impl.Module{endless("m"), endless("z")}
	got, code := impl.Inline(p, place("m", "f", 0, 0), 0)
	checkHoldsItself(t, p, got, code)
}

// What is answered shares no memory with the arguments, no two lists of it share any, and nothing is written into the arguments.
func TestInlineMemory(t *testing.T) {
	m := newMaker(96)
	told := map[int]int{}
	for i := range 300 {
		p := m.inlinable()
		at, n := m.callPlace(p)
		if i%5 == 0 {
			p = []impl.Module{m.oddModule()}
			at = m.oddPlace(p)
		}
		checkUntouched(t, p, func(p []impl.Module) {
			got, code := impl.Inline(p, at, n)
			told[code]++
			checkApart(t, got, p)
			spoilProgram(got)
		})
	}
	if told[impl.EdOk] < 50 || told[impl.EdShape] < 20 || told[impl.EdBad] < 20 {
		t.Error("too few", told)
	}
}

// A program may hold one list in many places; what is made of it does not.
func TestInlineOfSharedLists(t *testing.T) {
	kids := []impl.Exp{variable("X")}
	calling := impl.Exp{Kind: impl.ExCall, Text: "f", Kids: kids}
	body := []impl.Exp{{Kind: impl.ExTuple, Kids: kids}, {Kind: impl.ExMatch, Kids: []impl.Exp{variable("Y"), calling}}, calling}
	c := impl.Clause{Pats: kids, Body: body}
	f := impl.Fun{Name: "f", Arity: 1, Clauses: []impl.Clause{c}}
	exports := []impl.Ref{{Name: "f", Arity: 1}}
	p := []impl.Module{{Name: "a", Exports: exports, Funs: []impl.Fun{f}}, {Name: "m", Exports: exports, Funs: []impl.Fun{f}}}
	const kept = "f(X) -> {X}, Y = f(X), f(X)."
	checkUntouched(t, p, func([]impl.Module) {
		got, code := impl.Inline(p, place("m", "f", 1, 0), 1)
		checkMade(t, p, got, code, []impl.Module{module(t, "a", "f/1", kept), module(t, "m", "f/1", "f(X) -> {X}, I1 = X, {I1}, I2 = f(I1), Y = f(I1), f(X).")})
		spoilProgram(got)
		got, code = impl.Inline(p, place("a", "f", 1, 0), 2)
		checkMade(t, p, got, code, []impl.Module{module(t, "a", "f/1", "f(X) -> {X}, Y = f(X), I1 = X, {I1}, I2 = f(I1), f(I1)."), module(t, "m", "f/1", kept)})
		spoilProgram(got)
	})
	if impl.Show(p[1]) != impl.Show(module(t, "m", "f/1", kept)) {
		t.Error("written into", impl.Show(p[1]))
	}
	checkInlineCode(t, p, place("m", "f", 1, 0), 0, impl.EdShape)
}

// Nothing is kept: changes beside one another do not see each other.
func TestInlinesApart(t *testing.T) {
	p := []impl.Module{module(t, "a", "f/1", "f(X) -> m:f(X)."), module(t, "m", "f/1", "f(X) -> g(X), Y = g({X}), h(X, Y), put(Y), f(Y). g(X) -> Z = {X}, {Z}. h(X, Y) -> g(X), {X, Y}.")}
	type asked struct {
		name     string
		arity, n int
	}
	list := []asked{{"f", 1, 0}, {"f", 1, 1}, {"f", 1, 2}, {"f", 1, 3}, {"f", 1, 4}, {"h", 2, 0}, {"h", 2, 1}, {"g", 1, 7}}
	told := checkAlongside(t, len(list), func(i int) string {
		got, code := impl.Inline(p, place("m", list[i].name, list[i].arity, 0), list[i].n)
		return impl.CodeText(code) + " " + programTextOf(got) + strings.Join(impl.Fresh([]string{"I" + strconv.Itoa(i)}, 9), " ")
	})
	if !strings.Contains(told[2], "f(X) -> g(X), Y = g({X}), I1 = X, I2 = Y, g(I1), {I1, I2}, put(Y), f(Y).\n") {
		t.Error("changes", told)
	}
}
