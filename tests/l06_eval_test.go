package tests

import (
	"math"
	"slices"
	"strings"
	"sync"
	"testing"

	"loop.example/g00377/impl"
)

const enough = 5000

// checkRun wants what is told of a run of m:f with these values.
func checkRun(t *testing.T, p []impl.Module, args []impl.Val, want string) {
	t.Helper()
	checkRunOf(t, p, "m", "f", args, enough, want)
}

func checkRunOf(t *testing.T, p []impl.Module, mod, name string, args []impl.Val, fuel int, want string) {
	t.Helper()
	got := impl.Run(p, mod, name, args, fuel)
	if impl.ResultText(got) != want {
		t.Errorf("%s%s with %d of fuel is %q, not %q", programTextOf(p), startText(mod, name, args), fuel, impl.ResultText(got), want)
	}
	checkShape(t, got)
}

// startText tells what is run, for a failure's message; of a large value not all of it.
func startText(mod, name string, args []impl.Val) string {
	text := mod + ":" + name + " of " + impl.ValText(tupleVal(args...))
	return text[:min(len(text), 300)]
}

// checkShape wants nothing beside what a code has.
func checkShape(t *testing.T, r impl.Result) {
	t.Helper()
	switch r.Code {
	case impl.RunOk:
		if r.Why != "" {
			t.Errorf("%+v has a Why", r)
		}
		return
	case impl.RunFail:
		if !slices.Contains([]string{"unbound", "badarith", "badmatch", "badcase", "badfun", "undef"}, r.Why) {
			t.Errorf("%+v has no Why", r)
		}
	case impl.RunFuel:
		if r.Why != "" {
			t.Errorf("%+v has a Why", r)
		}
	default:
		if r.Code != impl.RunNone || r.Why != "" || len(r.Out) != 0 {
			t.Errorf("%+v is not like none", r)
		}
	}
	if plain(r.Val) != plain(impl.Val{}) {
		t.Errorf("%+v has a value", r)
	}
}

// checkBody runs f() with this body, in a module with some functions beside it.
func checkBody(t *testing.T, body, want string) {
	t.Helper()
	checkRun(t, bodyAlone(t, body), nil, want)
}

func bodyAlone(t *testing.T, body string) []impl.Module {
	t.Helper()
	return alone(t, "f/0", "f() -> "+body+". id(X) -> X. two(A, B) -> {A, B}. one(1) -> yes. no() -> none.")
}

func TestRunOfEachKind(t *testing.T) {
	for body, want := range map[string]string{
		"0":                                    "ok 0",
		"999999999":                            "ok 999999999",
		"abc":                                  "ok abc",
		"[]":                                   "ok []",
		"{1}":                                  "ok {1}",
		"{1, a, [], {2}}":                      "ok {1, a, [], {2}}",
		"[1 | 2]":                              "ok [1 | 2]",
		"[1, 2, 3]":                            "ok [1 | [2 | [3 | []]]]",
		"[1, 2 | a]":                           "ok [1 | [2 | a]]",
		"1 + 2":                                "ok 3",
		"1 - 2":                                "ok -1",
		"3 * 4":                                "ok 12",
		"1 + 2 * 3 - 4":                        "ok 3",
		"0 - 5 * 7":                            "ok -35",
		"1 < 2":                                "ok true",
		"2 < 1":                                "ok false",
		"1 == 1":                               "ok true",
		"1 == a":                               "ok false",
		"1 < a":                                "ok true",
		"{1, 2} == {1, 2}":                     "ok true",
		"[1] < [2]":                            "ok true",
		"{1} < [1]":                            "ok true",
		"X = 1":                                "ok 1",
		"X = 1, X":                             "ok 1",
		"X = {1, 2}, {X, X}":                   "ok {{1, 2}, {1, 2}}",
		"{X, _} = {1, 2}":                      "ok {1, 2}",
		"{X, [_ | Y]} = {1, [2]}, Y":           "ok []",
		"X = Y = 3, X + Y":                     "ok 6",
		"1 = 1":                                "ok 1",
		"a = a":                                "ok a",
		"[] = []":                              "ok []",
		"case 1 of 1 -> a end":                 "ok a",
		"case 2 of 1 -> a; 2 -> b; _ -> c end": "ok b",
		"case 3 of 1 -> a; 2 -> b; _ -> c end": "ok c",
		"case {1, 2} of {X, Y} -> Y - X end":   "ok 1",
		"case {1, 2} of {X, X} -> same; _ -> other end":      "ok other",
		"case 1 of X -> Y = X + 1, Z = Y * 2, {X, Y, Z} end": "ok {1, 2, 4}",
		"id(7)":              "ok 7",
		"m:f2()":             "fail undef",
		"two(1, b)":          "ok {1, b}",
		"id(id({id(1)}))":    "ok {1}",
		"one(1)":             "ok yes",
		"no()":               "ok none",
		"put(3)":             "ok 3 >3",
		"put({put(1), 2})":   "ok {1, 2} >1 >{1, 2}",
		"1, 2, 3":            "ok 3",
		"put(a), put(b), []": "ok [] >a >b",
	} {
		checkBody(t, body, want)
	}
}

// Numbers go around 64 bits.
func TestRunAroundSixtyFourBits(t *testing.T) {
	p := alone(t, "f/2, g/2, h/2", "f(A, B) -> A + B. g(A, B) -> A - B. h(A, B) -> A * B.")
	most, least := numVal(math.MaxInt), numVal(math.MinInt)
	checkRunOf(t, p, "m", "f", []impl.Val{most, numVal(1)}, 3, "ok -9223372036854775808")
	checkRunOf(t, p, "m", "g", []impl.Val{least, numVal(1)}, 3, "ok 9223372036854775807")
	checkRunOf(t, p, "m", "h", []impl.Val{most, numVal(2)}, 3, "ok -2")
	checkBody(t, "X = 999999999 * 999999999, X * X", "ok -8697042068240017407")
}

func TestRunEachWhy(t *testing.T) {
	for body, want := range map[string]string{
		"X":                                      "fail unbound",
		"{1, X}":                                 "fail unbound",
		"id(X)":                                  "fail unbound",
		"X = X":                                  "fail unbound",
		"case X of _ -> 1 end":                   "fail unbound",
		"case 1 of Y -> X end":                   "fail unbound",
		"1 + a":                                  "fail badarith",
		"a - 1":                                  "fail badarith",
		"[] * []":                                "fail badarith",
		"{1} + 1":                                "fail badarith",
		"1 = 2":                                  "fail badmatch",
		"a = b":                                  "fail badmatch",
		"1 = a":                                  "fail badmatch",
		"[] = {1}":                               "fail badmatch",
		"{X} = {1, 2}":                           "fail badmatch",
		"{X, X} = {1, 2}":                        "fail badmatch",
		"[X | Y] = []":                           "fail badmatch",
		"X = 1, X = 2":                           "fail badmatch",
		"case 1 of 2 -> 3 end":                   "fail badcase",
		"case {1, 2} of 2 -> 3; {X, X} -> 4 end": "fail badcase",
		"one(2)":                                 "fail badfun",
		"gone()":                                 "fail undef",
		"id()":                                   "fail undef",
		"id(1, 2)":                               "fail undef",
		"q:q()":                                  "fail undef",
		"m:gone()":                               "fail undef",
		"m:id(1)":                                "fail undef",
	} {
		checkBody(t, body, want)
	}
}

// Of several reasons that one is told which comes first.
func TestRunFirstFailure(t *testing.T) {
	for body, want := range map[string]string{
		"{X, 1 + a}":                       "fail unbound",
		"{1 + a, X}":                       "fail badarith",
		"(1 = 2) + X":                      "fail badmatch",
		"X + (1 = 2)":                      "fail unbound",
		"gone(X)":                          "fail unbound",
		"gone(one(2))":                     "fail badfun",
		"one(gone())":                      "fail undef",
		"1 = (2 = X)":                      "fail unbound",
		"case (1 = 2) of _ -> X end":       "fail badmatch",
		"case 1 of X -> 1 + a; _ -> 2 end": "fail badarith",
		"1, X, 1 + a":                      "fail unbound",
		"put(X)":                           "fail unbound",
		"[X | 1 + a]":                      "fail unbound",
		"[1 + a | X]":                      "fail badarith",
		"two(one(2), X)":                   "fail badfun",
		"case 1 of 1 -> a end, case 2 of 1 -> b end, X": "fail badcase",
	} {
		checkBody(t, body, want)
	}
}

// What was put out ahead of a failure is told, by whatever kid it was put out; nothing behind it is.
func TestRunOutAheadOfAFailure(t *testing.T) {
	for body, want := range map[string]string{
		"put(1), put(2), X, put(3)":                        "fail unbound >1 >2",
		"{put(1), put(2), 1 + a, put(3)}":                  "fail badarith >1 >2",
		"[put(1) | X]":                                     "fail unbound >1",
		"[X | put(1)]":                                     "fail unbound",
		"[put(1), put(2) | 1 + a]":                         "fail badarith >1 >2",
		"two(put(1), X)":                                   "fail unbound >1",
		"two(X, put(1))":                                   "fail unbound",
		"two({put(1), two(put(2), put(3))}, gone(put(4)))": "fail undef >1 >2 >3 >4",
		"gone(put(1), put(2))":                             "fail undef >1 >2",
		"q:q(put(1))":                                      "fail undef >1",
		"one(put(2))":                                      "fail badfun >2",
		"put(1) + put(a)":                                  "fail badarith >1 >a",
		"put(a) + X":                                       "fail unbound >a",
		"3 = put(4)":                                       "fail badmatch >4",
		"case put(4) of 3 -> put(5) end":                   "fail badcase >4",
		"case put(4) of 4 -> put(5), X; _ -> put(6) end":   "fail unbound >4 >5",
		"put(put(put(1) + 1) + a)":                         "fail badarith >1 >2",
		"put({put(1), X})":                                 "fail unbound >1",
		"g()":                                              "fail undef",
	} {
		checkBody(t, body, want)
	}
	p := alone(t, "f/0", "f() -> put(1), put({g(2), X}). g(N) -> put(N), h(N + 1). h(N) -> put(N).")
	checkRun(t, p, nil, "fail unbound >1 >2 >3")
}

func TestRunOutInOrder(t *testing.T) {
	checkBody(t, "{put(1), [put(2) | put(3)], put(4) + put(5), two(put(6), put(7))}, case put(8) of X -> put(9) end, Y = put(10), put(Y)",
		"ok 10 >1 >2 >3 >4 >5 >6 >7 >8 >9 >10 >10")
	p := []impl.Module{module(t, "a", "f/1", "f(X) -> put({a, X}), m:g(X), put(end1)."), module(t, "m", "f/0, g/1", "f() -> put(1), a:f(put(2)), put(3). g(X) -> put({m, X}).")}
	checkRun(t, p, nil, "ok 3 >1 >2 >{a, 2} >{m, 2} >end1 >3")
}

// What a kid binds is bound in those behind it, and behind the expression.
func TestRunWhatKidsBind(t *testing.T) {
	for body, want := range map[string]string{
		"{X = 1, X}":                    "ok {1, 1}",
		"{X, X = 1}":                    "fail unbound",
		"{X = 1, 2}, X":                 "ok 1",
		"{X = 1, X = 1}":                "ok {1, 1}",
		"{X = 1, X = 2}":                "fail badmatch",
		"[X = 1 | X], X":                "ok 1",
		"[X = 1 | X]":                   "ok [1 | 1]",
		"[X | X = 1]":                   "fail unbound",
		"(X = 1) + X":                   "ok 2",
		"X + (X = 1)":                   "fail unbound",
		"((X = 1) == X) == (X < 2), X":  "ok 1",
		"two(X = 1, X), X":              "ok 1",
		"two(X = 1, X + 1)":             "ok {1, 2}",
		"two(X, X = 1)":                 "fail unbound",
		"put(X = 1) + X":                "ok 2 >1",
		"m:f(X = 1), X":                 "fail undef",
		"Y = (X = 1), X + Y":            "ok 2",
		"{X, Y} = {Y = 1, 2}":           "fail badmatch",
		"{X, Y} = {Y = 1, 1}, X + Y":    "ok 2",
		"X = {X = 1}":                   "fail badmatch",
		"X = (X = 1)":                   "ok 1",
		"case X = 1 of _ -> X end":      "ok 1",
		"case X = 1 of 1 -> a end, X":   "ok 1",
		"case X = 1 of X -> X + 1 end":  "ok 2",
		"{{X = 1}, {{X}}}, [X]":         "ok [1 | []]",
		"id({X = 5, Y = X + 1}), X * Y": "ok 30",
	} {
		checkBody(t, body, want)
	}
}

// What is bound within a clause is bound there alone.
func TestRunBehindACase(t *testing.T) {
	for body, want := range map[string]string{
		"case 1 of X -> a end, X":                                         "fail unbound",
		"case 1 of _ -> X = 1 end, X":                                     "fail unbound",
		"case 1 of X -> a end, X = 2, X":                                  "ok 2",
		"case 1 of X -> Y = 2 end, {X = 3, Y = 4}":                        "ok {3, 4}",
		"case 1 of X -> a end, case 2 of X -> X end":                      "ok 2",
		"{case 1 of X -> X end, X}":                                       "fail unbound",
		"{case 1 of X -> X end, X = 2, X}":                                "ok {1, 2, 2}",
		"case 1 of X -> case 2 of Y -> X + Y end end":                     "ok 3",
		"case 1 of X -> case 2 of Y -> X end, Y end":                      "fail unbound",
		"case 1 of X -> case 2 of Y -> X end, X end":                      "ok 1",
		"W = 0, case 1 of X -> Y = X end, W":                              "ok 0",
		"W = 0, case 1 of X -> Y = X end, V = 5, {W, V}":                  "ok {0, 5}",
		"case {1, 2} of {X, 3} -> X; {Y, 2} -> Y end":                     "ok 1",
		"case {1, 2} of {X, 3} -> X; {Y, 2} -> X end":                     "fail unbound",
		"case {1, 2} of {X, 3} -> X; {2, X} -> X; {Y, X} -> {X, Y} end":   "ok {2, 1}",
		"X = 1, case 1 of X -> same; _ -> other end":                      "ok same",
		"X = 1, case 2 of X -> same; _ -> other end":                      "ok other",
		"X = 1, case 2 of X -> same end":                                  "fail badcase",
		"X = 1, case {1, 2} of {X, Y} -> Y end":                           "ok 2",
		"X = 1, case {2, 2} of {X, Y} -> Y; {Y, Y} -> {Y, X} end":         "ok {2, 1}",
		"case 1 of X -> X = 2 end":                                        "fail badmatch",
		"A = 1, case 1 of _ -> B = 2, C = 3 end, B = 4, {A, B}, C":        "fail unbound",
		"A = 1, case 1 of _ -> B = 2, C = 3 end, B = 4, C = 5, {A, B, C}": "ok {1, 4, 5}",
	} {
		checkBody(t, body, want)
	}
}

// A name that is bound already fits what is alike alone.
func TestRunNamesBoundAlready(t *testing.T) {
	for body, want := range map[string]string{
		"X = 1, X = 1, X":            "ok 1",
		"X = {1, [a]}, X = {1, [a]}": "ok {1, [a | []]}",
		"X = {1, [a]}, X = {1, [b]}": "fail badmatch",
		"X = 1, {X, Y} = {1, 2}, Y":  "ok 2",
		"X = 1, {Y, X} = {1, 2}":     "fail badmatch",
		"X = 1, id(2), X":            "ok 1",
		"X = 1, A = 5, two(2, 3)":    "ok {2, 3}",
		"X = 1, {id(2), X}":          "ok {2, 1}",
	} {
		checkBody(t, body, want)
	}
	p := alone(t, "f/2", "f(A, A) -> {same, A}; f(A, {A, B}) -> {first, B}; f(A, [B | A]) -> {tail, B}; f({A, B}, [B | A]) -> {both, A, B}; f(_, _) -> other.")
	one, two := numVal(1), numVal(2)
	for _, k := range []struct {
		a, b impl.Val
		want string
	}{
		{one, one, "ok {same, 1}"},
		{one, two, "ok other"},
		{one, tupleVal(one, two), "ok {first, 2}"},
		{one, tupleVal(two, one), "ok other"},
		{one, consVal(two, one), "ok {tail, 2}"},
		{one, consVal(one, two), "ok other"},
		{tupleVal(one, two), consVal(two, one), "ok {both, 1, 2}"},
		{tupleVal(one, two), consVal(one, two), "ok other"},
		{tupleVal(one, two), tupleVal(one, two), "ok {same, {1, 2}}"},
	} {
		checkRun(t, p, []impl.Val{k.a, k.b}, k.want)
	}
}

func TestRunClausesInOrder(t *testing.T) {
	p := alone(t, "f/1", "f(0) -> nought; f(ok) -> atom; f([]) -> none; f([1 | T]) -> {ones, T}; f([H | _]) -> {head, H}; f({A, B}) -> [A, B]; f({_}) -> single; f(N) -> N + 1; f(_) -> never.")
	for _, k := range []struct {
		arg  impl.Val
		want string
	}{
		{numVal(0), "ok nought"},
		{numVal(1), "ok 2"},
		{numVal(-1), "ok 0"},
		{atomVal("ok"), "ok atom"},
		{atomVal("no"), "fail badarith"},
		{nilVal(), "ok none"},
		{consVal(numVal(1), numVal(3)), "ok {ones, 3}"},
		{consVal(numVal(2), numVal(3)), "ok {head, 2}"},
		{tupleVal(numVal(1), nilVal()), "ok [1 | [[] | []]]"},
		{tupleVal(numVal(1)), "ok single"},
		{tupleVal(numVal(1), numVal(2), numVal(3)), "fail badarith"},
	} {
		checkRun(t, p, []impl.Val{k.arg}, k.want)
	}
	six := alone(t, "f/6", "f(A, B, C, D, E, F) -> {F, E, D, C, B, A}.")
	checkRun(t, six, []impl.Val{numVal(1), numVal(2), numVal(3), numVal(4), numVal(5), numVal(6)}, "ok {6, 5, 4, 3, 2, 1}")
}

func TestRunCalls(t *testing.T) {
	a := module(t, "a", "f/1, len/2, swap/1", "f(X) -> g(X). g(X) -> {a, X}. len([], N) -> N; len([_ | T], N) -> len(T, N + 1). swap({A, B}) -> {B, A}.")
	m := module(t, "m", "even/1, f/1, far/1, g/1", "f(N) -> fac(N). fac(0) -> 1; fac(N) -> N * fac(N - 1). g(X) -> {m, X}. even(0) -> true; even(N) -> odd(N - 1). odd(0) -> false; odd(N) -> even(N - 1). far(X) -> {g(X), a:f(X), m:g(X), a:swap(a:swap({X, a:len([X, X], 0)}))}.")
	p := []impl.Module{a, m}
	checkRunOf(t, p, "m", "f", []impl.Val{numVal(10)}, enough, "ok 3628800")
	checkRunOf(t, p, "m", "even", []impl.Val{numVal(9)}, enough, "ok false")
	checkRunOf(t, p, "m", "even", []impl.Val{numVal(10)}, enough, "ok true")
	checkRunOf(t, p, "m", "far", []impl.Val{numVal(7)}, enough, "ok {{m, 7}, {a, 7}, {m, 7}, {7, 2}}")
	checkRunOf(t, p, "a", "f", []impl.Val{numVal(7)}, enough, "ok {a, 7}")
	// Called without a module's name, a function is that of the module in which the call stands.
	back := []impl.Module{module(t, "a", "f/0", "f() -> g(). g() -> a."), module(t, "m", "f/0", "f() -> {g(), a:f(), g()}. g() -> m.")}
	checkRun(t, back, nil, "ok {m, a, m}")
}

// A function sees nothing of what is bound where it is called, and leaves nothing bound there.
func TestRunNamesOfACall(t *testing.T) {
	checkRun(t, alone(t, "f/0", "f() -> X = 1, g(). g() -> X."), nil, "fail unbound")
	checkRun(t, alone(t, "f/0", "f() -> X = 1, {g(2), X}. g(X) -> X = 2, Y = 3, X + Y."), nil, "ok {5, 1}")
	checkRun(t, alone(t, "f/0", "f() -> {g(2), Y}. g(X) -> Y = X."), nil, "fail unbound")
	checkRun(t, alone(t, "f/1", "f(0) -> []; f(N) -> X = N, [f(N - 1) | X]."), []impl.Val{numVal(3)}, "ok [[[[] | 1] | 2] | 3]")
}

func TestRunPut(t *testing.T) {
	own := "put(X) -> {own, X}. put() -> nothing. put(X, Y) -> {Y, X}."
	for _, k := range []struct{ exports, funs, want string }{
		{"f/0", "f() -> put(1).", "ok 1 >1"},
		{"f/0", "f() -> put(put(1) + 1).", "ok 2 >1 >2"},
		{"f/0", "f() -> {put(1), put(), put(2, 3)}. " + own, "ok {{own, 1}, nothing, {3, 2}}"},
		{"f/0", "f() -> put(1). put(2) -> a.", "fail badfun"},
		{"f/0", "f() -> put(1). put(X) -> X + a.", "fail badarith"},
		{"f/0", "f() -> put(1). put(X) -> put2(X). put2(X) -> X.", "ok 1"},
		{"f/0", "f() -> put().", "fail undef"},
		{"f/0", "f() -> put(1, 2).", "fail undef"},
		{"f/0", "f() -> put(1), put(1, 2).", "fail undef >1"},
		{"f/0", "f() -> put(1), put(1, 2). put(X, Y) -> put(Y).", "ok 2 >1 >2"},
		{"f/0", "f() -> m:put(1).", "fail undef"},
		{"f/0, put/1", "f() -> m:put(1).", "fail undef"},
		{"f/0", "f() -> m:put(1). put(X) -> X.", "fail undef"},
		{"f/0, put/1", "f() -> m:put(1). put(X) -> {own, X}.", "ok {own, 1}"},
		{"f/0", "f() -> put:put(1).", "fail undef"},
		{"f/0", "f() -> put:put(put(1)).", "fail undef >1"},
	} {
		checkRun(t, alone(t, k.exports, k.funs), nil, k.want)
	}
	// Each module has its own put/1, or none.
	p := []impl.Module{module(t, "a", "g/1, put/1", "g(X) -> put(X). put(X) -> {own, X}."), module(t, "m", "f/0, g/1", "f() -> put({a:g(1), g(2), a:put(3)}), put(4). g(X) -> put(X).")}
	checkRun(t, p, nil, "ok 4 >2 >{{own, 1}, 2, {own, 3}} >4")
	checkRunOf(t, p, "a", "put", []impl.Val{numVal(5)}, enough, "ok {own, 5}")
	checkRunOf(t, alone(t, "put/1", "f() -> 1."), "m", "put", []impl.Val{numVal(5)}, enough, "none")
}

// A call with a module's name wants the function both exported and there, by its own module's name, too.
func TestRunFarCalls(t *testing.T) {
	for _, k := range []struct{ exports, funs, body, want string }{
		{"g/0", "g() -> 1.", "b:g()", "ok 1"},
		{"", "g() -> 1.", "b:g()", "fail undef"},
		{"g/0", "h() -> 1.", "b:g()", "fail undef"},
		{"g/1", "g() -> 1.", "b:g()", "fail undef"},
		{"g/0", "g(X) -> X.", "b:g()", "fail undef"},
		{"g/0, g/1", "g(X) -> X. g() -> none.", "{b:g(), b:g(2)}", "ok {none, 2}"},
		{"g/0", "g() -> 1.", "c:g()", "fail undef"},
		{"g/0", "g() -> 1.", "g()", "fail undef"},
		{"g/1", "g(1) -> a.", "b:g(put(2))", "fail badfun >2"},
		{"g/0", "g() -> put(5), h(). h() -> m:h().", "b:g()", "ok far >5"},
		{"g/0", "g() -> m:hidden().", "b:g()", "fail undef"},
		{"g/0", "g() -> 1.", "m:h()", "ok far"},
		{"g/0", "g() -> 1.", "m:hidden()", "fail undef"},
		{"g/0", "g() -> 1.", "hidden()", "ok 2"},
	} {
		p := []impl.Module{module(t, "b", k.exports, k.funs), module(t, "m", "f/0, h/0", "f() -> "+k.body+". h() -> far. hidden() -> 2.")}
		checkRun(t, p, nil, k.want)
	}
}

// checkFuel wants just so much fuel to be enough: one less is not, and more does the same.
func checkFuel(t *testing.T, p []impl.Module, args []impl.Val, fuel int, want string) {
	t.Helper()
	checkRunOf(t, p, "m", "f", args, fuel, want)
	checkRunOf(t, p, "m", "f", args, fuel+1, want)
	checkRunOf(t, p, "m", "f", args, impl.MaxFuel, want)
	for less := range fuel {
		if r := impl.Run(p, "m", "f", args, less); r.Code != impl.RunFuel {
			t.Errorf("%s%d of fuel is enough: %s", programTextOf(p), less, impl.ResultText(r))
		}
	}
}

func TestRunFuelOfEachKind(t *testing.T) {
	for _, k := range []struct {
		body string
		fuel int
		want string
	}{
		{"1", 1, "ok 1"},
		{"a", 1, "ok a"},
		{"[]", 1, "ok []"},
		{"X", 1, "fail unbound"},
		{"1, 2, 3", 3, "ok 3"},
		{"{1}", 2, "ok {1}"},
		{"{1, 2, 3}", 4, "ok {1, 2, 3}"},
		{"{{{1}}}", 4, "ok {{{1}}}"},
		{"[1]", 3, "ok [1 | []]"},
		{"[1, 2]", 5, "ok [1 | [2 | []]]"},
		{"1 + 2", 3, "ok 3"},
		{"1 + 2 * 3", 5, "ok 7"},
		{"1 + a", 3, "fail badarith"},
		{"a + X", 3, "fail unbound"},
		{"X + a", 2, "fail unbound"},
		{"X = 1", 2, "ok 1"},
		{"{X, [_ | Y]} = {1, [2]}", 6, "ok {1, [2 | []]}"},
		{"X = Y = 1", 3, "ok 1"},
		{"1 = 2", 2, "fail badmatch"},
		{"X = 1, X", 3, "ok 1"},
		{"case 1 of 1 -> 2 end", 3, "ok 2"},
		{"case 1 of 2 -> 3; {X, Y} -> 4; [_ | _] -> 5; _ -> 6, 7 end", 4, "ok 7"},
		{"case 1 of 2 -> 3 end", 2, "fail badcase"},
		{"case {1, 2} of {X, Y} -> X + Y end", 7, "ok 3"},
		{"put(1)", 2, "ok 1 >1"},
		{"put(put(1))", 3, "ok 1 >1 >1"},
		{"id(1)", 3, "ok 1"},
		{"id(id(1))", 5, "ok 1"},
		{"two(1, 2)", 6, "ok {1, 2}"},
		{"no()", 2, "ok none"},
		{"no(), no()", 4, "ok none"},
		{"one(1)", 3, "ok yes"},
		{"one(2)", 2, "fail badfun"},
		{"gone()", 1, "fail undef"},
		{"gone(1, 2)", 3, "fail undef"},
		{"q:q(put(1))", 3, "fail undef >1"},
	} {
		checkFuel(t, bodyAlone(t, k.body), nil, k.fuel, k.want)
	}
	checkFuel(t, alone(t, "f/1", "f([]) -> 0; f([_ | T]) -> 1 + f(T)."), []impl.Val{deepVal(10, wraps[3])}, 41, "ok 10")
	far := []impl.Module{module(t, "a", "g/1", "g(X) -> h(X). h(X) -> X."), module(t, "m", "f/1", "f(X) -> {a:g(X), a:g(X)}.")}
	checkFuel(t, far, []impl.Val{numVal(1)}, 11, "ok {1, 1}")
}

// Without any fuel no expression is begun, but clauses are held against the values.
func TestRunWithoutFuel(t *testing.T) {
	p := alone(t, "f/1", "f(1) -> put(1); f({X, X}) -> X.")
	checkRunOf(t, p, "m", "f", []impl.Val{numVal(1)}, 0, "fuel")
	checkRunOf(t, p, "m", "f", []impl.Val{numVal(2)}, 0, "fail badfun")
	checkRunOf(t, p, "m", "f", []impl.Val{tupleVal(nilVal(), nilVal())}, 0, "fuel")
	checkRunOf(t, p, "m", "f", []impl.Val{tupleVal(nilVal(), numVal(1))}, 0, "fail badfun")
	checkRunOf(t, p, "m", "f", nil, 0, "none")
}

func TestRunOutAheadOfTheEndOfFuel(t *testing.T) {
	p := bodyAlone(t, "{put(1), two(put(2), [put(3) | put(4)])}, put(5), X")
	for fuel, want := range []string{
		"fuel", "fuel", "fuel", "fuel >1", "fuel >1", "fuel >1", "fuel >1 >2", "fuel >1 >2", "fuel >1 >2", "fuel >1 >2 >3",
		"fuel >1 >2 >3", "fuel >1 >2 >3 >4", "fuel >1 >2 >3 >4", "fuel >1 >2 >3 >4", "fuel >1 >2 >3 >4", "fuel >1 >2 >3 >4",
		"fuel >1 >2 >3 >4 >5", "fail unbound >1 >2 >3 >4 >5", "fail unbound >1 >2 >3 >4 >5",
	} {
		checkRunOf(t, p, "m", "f", nil, fuel, want)
	}
	for _, fuel := range []int{1, 10, 1000, impl.MaxFuel} {
		checkRunOf(t, alone(t, "f/1", "f(X) -> put(X), g(X). g(X) -> g2(X), g2(X). g2(X) -> g(X)."), "m", "f", []impl.Val{numVal(1)}, fuel, "fuel"+strings.Repeat(" >1", min(1, fuel/2)))
	}
}

// spending is f() with fuel spent on t(0) .. t(15), each of which does the one ahead twice: 1 + t(i) is 3 * 2^i - 1.
func spending(t *testing.T, fuel int) []impl.Module {
	t.Helper()
	funs := "t0() -> 1."
	for i := 1; i < 16; i++ {
		funs += " tN() -> tM(), tM()."
		funs = strings.NewReplacer("tN", "t"+impl.DecText(i), "tM", "t"+impl.DecText(i-1)).Replace(funs)
	}
	body := []string{}
	for i := 15; i >= 0; i-- {
		for takes := 3<<i - 1; fuel >= takes; fuel -= takes {
			body = append(body, "t"+impl.DecText(i)+"()")
		}
	}
	for range fuel {
		body = append(body, "1")
	}
	return alone(t, "f/0", "f() -> "+strings.Join(body, ", ")+". "+funs)
}

func TestRunMostFuel(t *testing.T) {
	checkRunOf(t, spending(t, 99999), "m", "f", nil, 99999, "ok 1")
	checkRunOf(t, spending(t, 99999), "m", "f", nil, 99998, "fuel")
	checkRunOf(t, spending(t, 100000), "m", "f", nil, 100000, "ok 1")
	checkRunOf(t, spending(t, 100000), "m", "f", nil, 99999, "fuel")
	checkRunOf(t, spending(t, 100001), "m", "f", nil, 100000, "fuel")
	for _, fuel := range []int{impl.MaxFuel + 1, math.MaxInt, -1, -2, math.MinInt, 1 << 32, 1<<32 + 5, math.MinInt + 5} {
		checkRunOf(t, bodyAlone(t, "put(1)"), "m", "f", nil, fuel, "none")
	}
	checkRunOf(t, bodyAlone(t, "put(1)"), "m", "f", nil, 100000, "ok 1 >1")
}

// Calls within calls are at most 200, the first one too.
func TestRunMostCalls(t *testing.T) {
	own := alone(t, "f/1", "f(0) -> done; f(N) -> f(N - 1).")
	behind := alone(t, "f/1", "f(0) -> 0; f(N) -> 1 + g(id(N)). g(N) -> f(N - 1). id(X) -> X.")
	kid := alone(t, "f/1", "f(0) -> id(0); f(N) -> {id(f(N - 1)), id(1)}, N. id(X) -> X.")
	far := []impl.Module{module(t, "a", "g/1", "g(N) -> m:f(N - 1)."), module(t, "m", "f/1", "f(0) -> done; f(N) -> a:g(N).")}
	for _, k := range []struct {
		p    []impl.Module
		n    int
		want string
	}{
		{own, 0, "ok done"},
		{own, 198, "ok done"},
		{own, 199, "ok done"},
		{own, 200, "fuel"},
		{own, 201, "fuel"},
		{own, 1 << 40, "fuel"},
		{behind, 99, "ok 99"},
		{behind, 100, "fuel"},
		{kid, 198, "ok 198"},
		{kid, 199, "fuel"},
		{far, 99, "ok done"},
		{far, 100, "fuel"},
	} {
		checkRun(t, k.p, []impl.Val{numVal(k.n)}, k.want)
	}
}

// Calls one behind the other are not within one another, however many there are.
func TestRunCallsBehindOneAnother(t *testing.T) {
	p := alone(t, "f/1", "f(0) -> {g(), g()}; f(N) -> {g(), g()}, g(), f(N - 1). g() -> h(), h(). h() -> k(), k(), k(). k() -> x.")
	checkRunOf(t, p, "m", "f", []impl.Val{numVal(196)}, impl.MaxFuel, "ok {x, x}")
	checkRunOf(t, p, "m", "f", []impl.Val{numVal(197)}, impl.MaxFuel, "fuel")
	checkRun(t, alone(t, "f/0", "f() -> "+strings.Repeat("id(", 39)+"1"+strings.Repeat(")", 39)+". id(X) -> X."), nil, "ok 1")
}

// What stands in the last call that there may be: put/1 is no call of a function; any other is one too many, there or not.
func TestRunInTheLastCall(t *testing.T) {
	for _, k := range []struct{ last, want string }{
		{"put(0)", "ok 0 >0"},
		{"put(0), g()", "fuel >0"},
		{"put(0), gone()", "fuel >0"},
		{"put(0), q:q()", "fuel >0"},
		{"put(0), one(2)", "fuel >0"},
		{"put(0), gone(1 + a)", "fail badarith >0"},
		{"put(0), X", "fail unbound >0"},
		{"put(0), g(put(1), put(2))", "fuel >0 >1 >2"},
		{"case 0 of X -> put(X), Y = {X, X}, Y end", "ok {0, 0} >0"},
	} {
		p := alone(t, "f/1", "f(0) -> "+k.last+"; f(N) -> f(N - 1). g() -> 1. one(1) -> 1. g(A, B) -> A.")
		checkRun(t, p, []impl.Val{numVal(199)}, k.want)
		checkRun(t, p, []impl.Val{numVal(200)}, "fuel")
	}
	own := alone(t, "f/1", "f(0) -> put(0); f(N) -> f(N - 1). put(X) -> X.")
	checkRun(t, own, []impl.Val{numVal(198)}, "ok 0")
	checkRun(t, own, []impl.Val{numVal(199)}, "fuel")
	checkRun(t, alone(t, "f/1", "f(0) -> gone(); f(N) -> f(N - 1)."), []impl.Val{numVal(198)}, "fail undef")
	checkRun(t, alone(t, "f/1", "f(0) -> one(2); f(N) -> f(N - 1). one(1) -> 1."), []impl.Val{numVal(198)}, "fail badfun")
}

// ofParts is a tuple of so many parts, from 2 on: lists of 301, and what is left.
func ofParts(count int) impl.Val {
	kids, left := []impl.Val{}, count-1
	for ; left > 301; left -= 301 {
		kids = append(kids, deepVal(150, wraps[3]))
	}
	rest := deepVal((left-1)/2, wraps[3])
	if left%2 == 0 {
		rest = tupleVal(rest)
	}
	return tupleVal(append(kids, rest)...)
}

func TestOfParts(t *testing.T) {
	for _, count := range []int{2, 20, 21, 100, 666, 1000, 1998, 1999, 2000, 2001, 6001} {
		if v := ofParts(count); partsIn(v) != count || !impl.ValOk(v) {
			t.Fatal("parts", count, partsIn(v), impl.ValOk(v))
		}
	}
}

// A tuple or a list cell has at most 2000 parts, itself and those of its kids.
func TestRunMostParts(t *testing.T) {
	for _, k := range []struct {
		body  string
		count int
		ok    bool
	}{
		{"{X}", 1999, true},
		{"{X}", 2000, false},
		{"{X, 1}", 1998, true},
		{"{X, 1}", 1999, false},
		{"{1, a, [], X}", 1996, true},
		{"{1, a, [], X}", 1997, false},
		{"[X]", 1998, true},
		{"[X]", 1999, false},
		{"[X | 1]", 1998, true},
		{"[X | 1]", 1999, false},
		{"[1 | X]", 1998, true},
		{"[1 | X]", 1999, false},
		{"[1, 2 | X]", 1996, true},
		{"[1, 2 | X]", 1997, false},
		{"{{X}}", 1998, true},
		{"{{X}}", 1999, false},
		{"{X, X}", 999, true},
		{"{X, X}", 1000, false},
		{"{X, X, X}", 666, true},
		{"{X, X, X}", 667, false},
		{"[X, X]", 998, true},
		{"[X, X]", 999, false},
		{"{X}, {X}, {X}, {X}", 1999, true},
		{"Y = {X, X}, {Y, Y}, {Y, Y, X}", 398, true},
		{"Y = {X, X}, {Y, Y}, {Y, Y, X}", 400, false},
		{"{id({X}), 1, 2}", 1996, true},
		{"{id({X}), 1, 2}", 1997, false},
	} {
		p := alone(t, "f/1", "f(X) -> put(made), "+k.body+", put(behind). id(X) -> X.")
		want := "fuel >made"
		if k.ok {
			want = "ok behind >made >behind"
		}
		checkRun(t, p, []impl.Val{ofParts(k.count)}, want)
	}
}

// Parts are counted where a tuple or a cell is made, and nowhere else.
func TestRunPartsThatAreNotMade(t *testing.T) {
	large := ofParts(6001)
	p := alone(t, "f/1, g/1", "f(X) -> Y = id(X), X = Y, case X of [A | B] -> 1; Z -> X == Z end. g(X) -> {X}. id(X) -> X.")
	checkRunOf(t, p, "m", "f", []impl.Val{large}, enough, "ok true")
	checkRunOf(t, p, "m", "g", []impl.Val{large}, enough, "fuel")
	all := impl.Run(alone(t, "f/1", "f(X) -> put(X)."), "m", "f", []impl.Val{large}, 2)
	if all.Code != impl.RunOk || plain(all.Val) != plain(large) || len(all.Out) != 1 || plain(all.Out[0]) != plain(large) {
		t.Error("a large value is not handed through")
	}
	// A list that goes on for as many cells as there may be: 999 cells and an end are 1999 parts.
	grow := alone(t, "f/2", "f(0, L) -> put(more), [1 | L]; f(N, L) -> f(N - 1, [1, 1, 1, 1, 1 | L]).")
	checkRun(t, grow, []impl.Val{numVal(199), nilVal()}, "ok "+impl.ValText(deepVal(996, wraps[3]))+" >more")
	checkRun(t, grow, []impl.Val{numVal(199), deepVal(3, wraps[3])}, "ok "+impl.ValText(deepVal(999, wraps[3]))+" >more")
	checkRun(t, grow, []impl.Val{numVal(199), deepVal(4, wraps[3])}, "fuel >more")
	checkRun(t, grow, []impl.Val{numVal(199), deepVal(5, wraps[3])}, "fuel")
}

// Doubling a value again and again ends, too.
func TestRunDoubling(t *testing.T) {
	p := alone(t, "f/2", "f(0, X) -> size; f(N, X) -> f(N - 1, {X, X}).")
	checkRun(t, p, []impl.Val{numVal(9), numVal(1)}, "ok size")
	checkRun(t, p, []impl.Val{numVal(10), numVal(1)}, "fuel")
	checkRun(t, p, []impl.Val{numVal(150), numVal(1)}, "fuel")
}

func TestRunNone(t *testing.T) {
	good := []impl.Module{module(t, "a", "f/1", "f(X) -> X."), module(t, "m", "f/0, f/2, g/1, gone/0", "f() -> put(1). f(X, Y) -> {X, Y}. g(X) -> put(X). h() -> 1. h(X) -> X.")}
	one := numVal(1)
	checkRunOf(t, good, "m", "f", nil, enough, "ok 1 >1")
	checkRunOf(t, good, "m", "f", []impl.Val{}, enough, "ok 1 >1")
	checkRunOf(t, good, "m", "f", []impl.Val{one, one}, enough, "ok {1, 1}")
	for _, k := range []struct {
		mod, name string
		args      []impl.Val
	}{
		{"b", "f", nil}, {"", "f", nil}, {"M", "f", nil}, {"m ", "f", nil}, {"m:f", "f", nil}, {"mm", "f", nil},
		{"m", "", nil}, {"m", "F", nil}, {"m", "f/0", nil}, {"m", "ff", nil}, {"m", "put", []impl.Val{one}},
		{"m", "h", nil}, {"m", "h", []impl.Val{one}}, {"m", "gone", nil}, {"a", "f", nil}, {"a", "g", []impl.Val{one}},
		{"m", "f", []impl.Val{one}}, {"m", "f", []impl.Val{one, one, one}}, {"m", "g", nil}, {"m", "g", []impl.Val{one, one}},
		{"m", "g", make([]impl.Val, 7)}, {"m", "g", make([]impl.Val, 300)},
	} {
		checkRunOf(t, good, k.mod, k.name, k.args, enough, "none")
	}
	checkRunOf(t, nil, "m", "f", nil, enough, "none")
	checkRunOf(t, []impl.Module{}, "", "", nil, 0, "none")
}

func TestRunOfWrongValues(t *testing.T) {
	p := alone(t, "f/1, f/3", "f(X) -> put(1). f(X, Y, Z) -> put(1).")
	kids := []impl.Val{numVal(1), numVal(2)}
	kids[1] = impl.Val{Kind: impl.VCons, Kids: kids}
	bad := []impl.Val{
		{Kind: 5}, {Kind: -1}, {Kind: 9}, {Text: "a"}, {Kids: []impl.Val{nilVal()}}, atomVal(""), atomVal("A"), atomVal("case"),
		atomVal("abcdefghijk"), {Kind: impl.VAtom, Text: "a", N: 1}, tupleVal(), tupleVal(make([]impl.Val, 21)...), cell(), cell(numVal(1)),
		cell(numVal(1), numVal(1), numVal(1)), {Kind: impl.VNil, N: 1}, {Kind: impl.VNil, Text: "a"}, tupleVal(tupleVal()), consVal(atomVal("B"), nilVal()),
		deepVal(201, wraps[0]), deepVal(5000, wraps[3]), kids[1],
	}
	for _, v := range bad {
		checkNoRunWith(t, p, v)
	}
	for _, v := range []impl.Val{numVal(math.MinInt), atomVal("abcdefghij"), tupleVal(make([]impl.Val, 20)...), deepVal(200, wraps[0]), deepVal(200, wraps[3])} {
		checkRun(t, p, []impl.Val{v}, "ok 1 >1")
		checkRun(t, p, []impl.Val{v, v, v}, "ok 1 >1")
	}
}

func checkNoRunWith(t *testing.T, p []impl.Module, v impl.Val) {
	t.Helper()
	for _, args := range [][]impl.Val{{v}, {v, nilVal(), nilVal()}, {nilVal(), v, nilVal()}, {nilVal(), nilVal(), v}} {
		if r := impl.Run(p, "m", "f", args, enough); plain(r) != plain(impl.Result{Code: impl.RunNone}) {
			t.Errorf("Kind %d: %s", v.Kind, impl.ResultText(r))
		}
	}
}

// A program that is not ProgramOk does nothing, whichever of its modules is wrong.
func TestRunOfNoProgram(t *testing.T) {
	good := []impl.Module{module(t, "a", "f/0", "f() -> 1."), module(t, "m", "f/0", "f() -> 1."), module(t, "z", "f/0", "f() -> 1.")}
	checkRun(t, good, nil, "ok 1")
	checkRun(t, []impl.Module{good[1], good[0]}, nil, "none")
	checkRun(t, []impl.Module{good[1], good[1]}, nil, "none")
	checkRun(t, append(slices.Clone(good), good[0]), nil, "none")
	checkRun(t, append(slices.Clone(good[:2]), endless("n")), nil, "none")
	checkRun(t, []impl.Module{endless("m")}, nil, "none")
	for at := range good {
		for what, spoil := range map[string]func(*impl.Module){
			"no name":          func(m *impl.Module) { m.Name = "" },
			"a great name":     func(m *impl.Module) { m.Name = "M" },
			"no function":      func(m *impl.Module) { m.Funs = nil },
			"one twice":        func(m *impl.Module) { m.Funs = append(m.Funs, m.Funs[0]) },
			"no clause":        func(m *impl.Module) { m.Funs[0].Clauses = nil },
			"no body":          func(m *impl.Module) { m.Funs[0].Clauses[0].Body = nil },
			"a wrong body":     func(m *impl.Module) { m.Funs[0].Clauses[0].Body[0] = anyOne() },
			"a pattern more":   func(m *impl.Module) { m.Funs[0].Clauses[0].Pats = only(anyOne()) },
			"an export twice":  func(m *impl.Module) { m.Exports = append(m.Exports, m.Exports[0]) },
			"an unknown kind":  func(m *impl.Module) { m.Funs[0].Clauses[0].Body[0].Kind = 11 },
			"a match of one":   func(m *impl.Module) { m.Funs[0].Clauses[0].Body[0] = impl.Exp{Kind: impl.ExMatch, Kids: only(num(1))} },
			"an unknown op":    func(m *impl.Module) { m.Funs[0].Clauses[0].Body[0] = op("/", num(1), num(1)) },
			"a case of nobody": func(m *impl.Module) { m.Funs[0].Clauses[0].Body[0] = impl.Exp{Kind: impl.ExCase} },
		} {
			p := roomy(good)
			spoil(&p[at])
			if r := impl.Run(p, "m", "f", nil, enough); plain(r) != plain(impl.Result{Code: impl.RunNone}) {
				t.Errorf("%s at %d: %s", what, at, impl.ResultText(r))
			}
		}
	}
	eleven := []impl.Module{}
	for _, name := range strings.Split("a b c d e f g h i j k", " ") {
		eleven = append(eleven, module(t, name, "f/0", "f() -> 1."))
	}
	checkRunOf(t, eleven, "a", "f", nil, enough, "none")
	checkRunOf(t, eleven[:10], "a", "f", nil, enough, "ok 1")
}

// A program that is ProgramOk and not Good runs: what is wrong shows where it is come to, and nowhere else.
func TestRunOfWhatIsNotGood(t *testing.T) {
	p := alone(t, "f/1, gone/0", "f(0) -> put(a), X; f(1) -> gone(); f(2) -> q:q(); f(3) -> m:h(); f(4) -> ok. h() -> 1. loose() -> X.")
	if impl.Good(p) || !impl.ProgramOk(p) {
		t.Fatal("good")
	}
	for n, want := range []string{"fail unbound >a", "fail undef", "fail undef", "fail undef", "ok ok", "fail badfun"} {
		checkRun(t, p, []impl.Val{numVal(n)}, want)
	}
}

func TestResultText(t *testing.T) {
	odd := impl.Val{Kind: 7, N: 3, Text: "a", Kids: []impl.Val{numVal(1)}}
	out := []impl.Val{numVal(-1), tupleVal(atomVal("a"), nilVal()), odd, consVal(numVal(1), nilVal())}
	const told = " >-1 >{a, []} > >[1 | []]"
	for _, k := range []struct {
		r    impl.Result
		want string
	}{
		{impl.Result{}, "ok 0"},
		{impl.Result{Val: atomVal("a")}, "ok a"},
		{impl.Result{Val: out[3], Out: out}, "ok [1 | []]" + told},
		{impl.Result{Val: odd}, "ok "},
		{impl.Result{Val: odd, Out: out}, "ok " + told},
		{impl.Result{Why: "badfun", Val: numVal(3)}, "ok 3"},
		{impl.Result{Code: impl.RunFail, Why: "badfun"}, "fail badfun"},
		{impl.Result{Code: impl.RunFail, Why: "badfun", Val: numVal(3), Out: out}, "fail badfun" + told},
		{impl.Result{Code: impl.RunFail}, "fail "},
		{impl.Result{Code: impl.RunFail, Out: out[:1]}, "fail  >-1"},
		{impl.Result{Code: impl.RunFail, Why: "any \n\xff >text"}, "fail any \n\xff >text"},
		{impl.Result{Code: impl.RunFuel}, "fuel"},
		{impl.Result{Code: impl.RunFuel, Why: "x", Val: numVal(3), Out: out}, "fuel" + told},
		{impl.Result{Code: impl.RunNone}, "none"},
		{impl.Result{Code: impl.RunNone, Why: "x", Val: numVal(3), Out: out}, "none" + told},
		{impl.Result{Code: 4, Why: "x", Val: numVal(3), Out: out}, ""},
		{impl.Result{Code: -1, Out: out}, ""},
		{impl.Result{Code: math.MaxInt, Out: out}, ""},
		{impl.Result{Code: math.MinInt}, ""},
	} {
		if got := impl.ResultText(k.r); got != k.want {
			t.Errorf("%+v is told as %q, not %q", k.r, got, k.want)
		}
	}
}

func (m maker) oddResult() impl.Result {
	r := impl.Result{Code: m.Intn(6) - 1, Why: pickOf(m, []string{"", "badfun", "undef", "\xff"}), Val: m.oddVal(1)}
	for range m.Intn(3) {
		r.Out = append(r.Out, m.oddVal(1))
	}
	return r
}

// Any results are alike where all their parts are; an empty list and nil are.
func TestSameResult(t *testing.T) {
	m := newMaker(61)
	alike := 0
	for range 4000 {
		a, b := m.oddResult(), m.oddResult()
		if m.Intn(2) == 0 {
			b = roomy(a)
			switch m.Intn(8) {
			case 0:
				b.Code++
			case 1:
				b.Why += "x"
			case 2:
				b.Val = changed(m, b.Val)
			case 3:
				b.Out = append(b.Out, numVal(0))
			case 4:
				if len(b.Out) > 0 {
					i := m.Intn(len(b.Out))
					b.Out[i] = changed(m, b.Out[i])
				}
			case 5:
				slices.Reverse(b.Out)
			}
		}
		want := plain(a) == plain(b)
		if want {
			alike++
		}
		if impl.SameResult(a, b) != want || impl.SameResult(b, a) != want || !impl.SameResult(a, roomy(a)) {
			t.Errorf("SameResult of %+v and %+v is not %v", a, b, want)
		}
	}
	if alike < 200 || alike > 3000 {
		t.Error("alike", alike)
	}
	empty := impl.Result{Val: impl.Val{Kids: []impl.Val{}}, Out: []impl.Val{}}
	if !impl.SameResult(empty, impl.Result{}) || !impl.SameResult(impl.Result{}, empty) {
		t.Error("empty and nil")
	}
	if impl.SameResult(impl.Result{Out: make([]impl.Val, 1)}, impl.Result{}) || impl.SameResult(impl.Result{}, impl.Result{Out: make([]impl.Val, 1)}) {
		t.Error("one and none")
	}
}

// Runs of programs that are made against a machine that goes step by step.
func TestRunsAgainstAMachine(t *testing.T) {
	m := newMaker(62)
	told := map[string]int{}
	for range 6000 {
		p := m.runnable()
		for range 3 {
			mod, name, args := m.start(p)
			fuel := pickOf(m, []int{m.Intn(40), 300, 3000, impl.MaxFuel, 0})
			got, want := impl.Run(p, mod, name, args, fuel), slowRun(p, mod, name, args, fuel)
			if impl.ResultText(got) != impl.ResultText(want) || !impl.SameResult(got, want) {
				t.Fatalf("%s%s with %d of fuel is %q, not %q", programTextOf(p), startText(mod, name, args), fuel, impl.ResultText(got), impl.ResultText(want))
			}
			checkShape(t, got)
			told[strings.Split(impl.ResultText(impl.Result{Code: got.Code}), " ")[0]+got.Why]++
			told["out"] += min(1, len(got.Out))
		}
	}
	checkKinds(t, told, 100, "ok", "fuel", "none", "out", "failunbound", "failbadarith", "failbadmatch", "failbadcase", "failbadfun", "failundef")
}

// P6: what a program does with some fuel it does with more; and what it puts out is put out with more, too.
func TestMoreFuelDoesTheSame(t *testing.T) {
	m := newMaker(63)
	ended, never, grew := 0, 0, 0
	for range 1500 {
		p := m.runnable()
		mod, name, args := m.start(p)
		most := impl.Run(p, mod, name, args, impl.MaxFuel)
		last := impl.Run(p, mod, name, args, 0)
		for fuel := 1; fuel < 200; fuel++ {
			r := impl.Run(p, mod, name, args, fuel)
			if last.Code != impl.RunFuel && !impl.SameResult(last, r) {
				t.Fatalf("%s%s is %q with %d of fuel, and %q with one less", programTextOf(p), startText(mod, name, args), impl.ResultText(r), fuel, impl.ResultText(last))
			}
			if !beginsWith(r.Out, last.Out) || !beginsWith(most.Out, r.Out) || r.Code != impl.RunFuel && !impl.SameResult(r, most) {
				t.Fatalf("%s%s is %q with %d of fuel, ahead of it %q, in the end %q", programTextOf(p), startText(mod, name, args), impl.ResultText(r), fuel, impl.ResultText(last), impl.ResultText(most))
			}
			grew += len(r.Out) - len(last.Out)
			last = r
		}
		if last.Code == impl.RunFuel {
			never++
		} else {
			ended++
		}
	}
	if ended < 500 || never < 50 || grew < 500 {
		t.Error("too few of a kind", ended, never, grew)
	}
}

func beginsWith(list, first []impl.Val) bool {
	return len(list) >= len(first) && slices.EqualFunc(list[:len(first)], first, func(a, b impl.Val) bool { return impl.CompareVal(a, b) == 0 })
}

type running struct {
	P    []impl.Module
	Args []impl.Val
}

// An answer shares no memory with the arguments, and no two lists of it share any.
func TestRunMemory(t *testing.T) {
	pair := tupleVal(tupleVal(numVal(1)), consVal(atomVal("a"), nilVal()))
	list := []running{
		{alone(t, "f/1", "f(X) -> X."), []impl.Val{pair}},
		{alone(t, "f/1", "f(X) -> put(X), put(X), {X, X}."), []impl.Val{pair}},
		{alone(t, "f/1", "f({X, Y}) -> put(Y), Z = [X | Y], put(Z), put(Z), Z."), []impl.Val{pair}},
		{alone(t, "f/2", "f(X, Y) -> put({X, Y}), case X of {A, B} -> {A, Y, put(B)} end."), []impl.Val{pair, pair}},
		{alone(t, "f/2", "f(X, Y) -> put(X), put(Y), A."), []impl.Val{pair, pair}},
		{alone(t, "f/1", "f(X) -> put(X), f(X)."), []impl.Val{pair}},
		{alone(t, "f/1", "f(X) -> put(X)."), []impl.Val{{Kind: 9, Kids: []impl.Val{pair}}}},
	}
	for _, a := range list {
		checkUntouched(t, a, func(a running) {
			r := impl.Run(a.P, "m", "f", a.Args, 50)
			checkApart(t, r, a)
			spoilVals(r.Val.Kids)
			spoilVals(r.Out)
		})
		// Without room behind, and with arguments that share their memory.
		checkApart(t, impl.Run(a.P, "m", "f", a.Args, 50), a)
	}
	m := newMaker(64)
	for range 500 {
		p := m.runnable()
		mod, name, args := m.start(p)
		checkUntouched(t, running{p, args}, func(a running) {
			r := impl.Run(a.P, mod, name, a.Args, 200)
			checkApart(t, r, a)
			spoilVals(r.Val.Kids)
			spoilVals(r.Out)
		})
	}
}

func TestResultMemory(t *testing.T) {
	m := newMaker(65)
	for range 300 {
		checkUntouched(t, []impl.Result{m.oddResult(), m.oddResult()}, func(list []impl.Result) {
			impl.SameResult(list[0], list[1])
			impl.SameResult(list[0], list[0])
			impl.ResultText(list[0])
		})
	}
}

// Nothing is kept: runs that stand behind, or beside, one another do not see each other.
func TestRunsApart(t *testing.T) {
	p := alone(t, "f/1, g/1", "f(0) -> put(end0); f(N) -> put(N), f(N - 1). g(X) -> put(X), gone().")
	want := make([]string, 20)
	for i := range want {
		want[i] = impl.ResultText(impl.Run(p, "m", "f", []impl.Val{numVal(i)}, enough))
	}
	wait := sync.WaitGroup{}
	got := make([]string, len(want))
	for i := range got {
		wait.Go(func() {
			impl.Run(p, "m", "g", []impl.Val{numVal(i)}, i)
			got[i] = impl.ResultText(impl.Run(p, "m", "f", []impl.Val{numVal(i)}, enough))
		})
	}
	wait.Wait()
	if !slices.Equal(got, want) || want[2] != "ok end0 >2 >1 >end0" {
		t.Error("runs", got, want)
	}
}

// Any arguments have an answer, and the same one each time.
func TestAnyRuns(t *testing.T) {
	m := newMaker(66)
	for range 3000 {
		p := []impl.Module{}
		for range m.Intn(3) {
			p = append(p, m.oddModule())
		}
		if m.Intn(2) == 0 {
			p = []impl.Module{m.module(3)}
		}
		mod, name, args := pickOf(m, madeAtoms), pickOf(m, madeAtoms), []impl.Val{}
		if len(p) > 0 && len(p[0].Funs) > 0 {
			f := p[0].Funs[0]
			mod, name, args = p[0].Name, f.Name, m.vals(max(0, f.Arity), 2)
			if m.Intn(2) == 0 {
				p[0].Exports = []impl.Ref{{Name: f.Name, Arity: f.Arity}}
			}
		}
		got := impl.Run(p, mod, name, args, 300)
		checkShape(t, got)
		if want := slowRun(p, mod, name, args, 300); !impl.SameResult(got, want) || !impl.SameResult(got, impl.Run(p, mod, name, args, 300)) {
			t.Errorf("%s%s is %q, not %q", programTextOf(p), startText(mod, name, args), impl.ResultText(got), impl.ResultText(want))
		}
	}
}

func TestRunConstants(t *testing.T) {
	if got := []int{impl.RunOk, impl.RunFail, impl.RunFuel, impl.RunNone, impl.MaxFuel, impl.MaxCalls, impl.MaxParts}; !slices.Equal(got, []int{0, 1, 2, 3, 100000, 200, 2000}) {
		t.Error("constants", got)
	}
}
