package tests

import (
	"slices"
	"strconv"
	"strings"
	"testing"

	"loop.example/g00377/impl"
)

// clauseOf reads a function of one clause.
func clauseOf(t *testing.T, pats, body string) impl.Clause {
	t.Helper()
	return parsed(t, "-module(m).\n-export([]).\nf("+pats+") -> "+body+".\n").Funs[0].Clauses[0]
}

func expOf(t *testing.T, text string) impl.Exp {
	t.Helper()
	return clauseOf(t, "", text).Body[0]
}

// namesText tells what is bound, free, and there at all.
func namesText(e impl.Exp) string {
	return strings.Join(impl.Bound(e), " ") + "|" + strings.Join(impl.Free(e), " ") + "|" + strings.Join(impl.Vars(e), " ")
}

func checkNamesOf(t *testing.T, what string, e impl.Exp, want string) {
	t.Helper()
	if got := namesText(e); got != want {
		t.Errorf("%s: bound, free and all are %s, not %s", what, got, want)
	}
}

func refsText(list []impl.Ref) string {
	texts := []string{}
	for _, ref := range list {
		texts = append(texts, ref.Name+"/"+strconv.Itoa(ref.Arity))
	}
	return strings.Join(texts, " ")
}

func TestNamesOfExpressions(t *testing.T) {
	for _, k := range []struct{ text, want string }{
		{"1", "||"},
		{"x", "||"},
		{"[]", "||"},
		{"X", "|X|X"},
		{"{X, Y}", "|X Y|X Y"},
		{"{Y, {X, 1}, Y}", "|X Y|X Y"},
		{"[X | Y]", "|X Y|X Y"},
		{"[Z, Y, X]", "|X Y Z|X Y Z"},
		{"Y + X", "|X Y|X Y"},
		{"Y == X", "|X Y|X Y"},
		{"f()", "||"},
		{"f(Y, x, X)", "|X Y|X Y"},
		{"m:f(Y, X)", "|X Y|X Y"},
		{"X = 1", "X||X"},
		{"X = Y", "X|Y|X Y"},
		{"_ = Y", "|Y|Y"},
		{"{a, 1, []} = Y", "|Y|Y"},
		{"{Y, [X | Z], _} = W", "Y X Z|W|W X Y Z"},
		{"case 1 of _ -> 2 end", "||"},
		{"case X of Y -> Z end", "|X Z|X Y Z"},
		{"case X of Y -> Y; Z -> {Y, Z} end", "|X Y|X Y Z"},
		{"case X of {Y, [Z | _]} -> Y + Z; 1 -> W end", "|W X|W X Y Z"},
	} {
		checkNamesOf(t, k.text, expOf(t, k.text), k.want)
	}
}

func TestMatchBindsBehind(t *testing.T) {
	for _, k := range []struct{ text, want string }{
		{"X = X", "X|X|X"},
		{"{X, Y} = {Y, X}", "X Y|X Y|X Y"},
		{"X = Y = Z", "Y X|Z|X Y Z"},
		{"X = Y = X", "Y X|X|X Y"},
		{"{B, A} = C = {D = 1, D}", "D C B A||A B C D"},
		{"X = f(Y = 1, Y)", "Y X||X Y"},
		{"{X = 1, X}", "X||X"},
		{"{X, X = 1}", "X|X|X"},
		{"{X, X = 1, X}", "X|X|X"},
		{"[X = 1 | X]", "X||X"},
		{"[X | X = 1]", "X|X|X"},
		{"(X = 1) * X", "X||X"},
		{"X < (X = 1)", "X|X|X"},
		{"f(X = 1, X)", "X||X"},
		{"f(X, X = 1)", "X|X|X"},
		{"m:f(X = Y, Y = X)", "X Y|Y|X Y"},
		{"{{{X = 1}}, {[X]}}", "X||X"},
		{"{{X}, {[X = 1]}}", "X|X|X"},
		{"{X = 1, X = 2}", "X||X"},
		{"{X, X} = 1", "X||X"},
		{"{[X | Y], Z, Y} = X = 1", "X Y Z||X Y Z"},
		{"{X = 1, {X, Y} = {1, X}, Y}", "X Y||X Y"},
		{"{Z = 1, A = 2, M = 3, {Z, A, M}}", "Z A M||A M Z"},
		{"{Z = Q, A = B, M = C}", "Z A M|B C Q|A B C M Q Z"},
		{"{X_y, XA, X1, Xa, X, Y}", "|X X1 XA X_y Xa Y|X X1 XA X_y Xa Y"},
		{"{Xa, X_y, XA, X1, X} = 1", "Xa X_y XA X1 X||X X1 XA X_y Xa"},
	} {
		checkNamesOf(t, k.text, expOf(t, k.text), k.want)
	}
}

func TestNamesOfClausesAndBehind(t *testing.T) {
	for _, k := range []struct{ text, want string }{
		{"{case 1 of X -> X end, X}", "|X|X"},
		{"{X, case 1 of X -> X end}", "|X|X"},
		{"{case 1 of _ -> X = 1, X end, X}", "|X|X"},
		{"{case 1 of X -> X end, Y}", "|Y|X Y"},
		{"{case 1 of X -> X end, X = 2, X}", "X||X"},
		{"case 1 of X -> Y = X, Y end", "||X Y"},
		{"case 1 of _ -> Y, Y = 1 end", "|Y|Y"},
		{"case 1 of _ -> Y = 1, Y; 2 -> Y end", "|Y|Y"},
		{"case 1 of X -> 1; 2 -> X end", "|X|X"},
		{"case 2 of 2 -> X; X -> 1 end", "|X|X"},
		{"case X = 1 of X -> X end", "X||X"},
		{"case X = 1 of Y -> {X, Y}; 2 -> X end", "X||X Y"},
		{"{case X = 1 of Y -> {X, Y} end, X, Y}", "X|Y|X Y"},
		{"case X of _ -> X = 1 end", "|X|X"},
		{"case X of X -> X end", "|X|X"},
		{"{X = 1, case 2 of 3 -> X end}", "X||X"},
		{"{X = 1, case X of X -> X end, X}", "X||X"},
		{"{case 1 of 1 -> case X = 2 of Y -> {X, Y} end, {X, Y} end, X}", "|X Y|X Y"},
		{"case case X = 1 of _ -> Y = 2 end of _ -> {X, Y} end", "X|Y|X Y"},
		{"{X, Y} = case Z of Y -> W = Y; X -> {X, W} end", "X Y|W Z|W X Y Z"},
		{"case {Y = 1, f(Z = 2)} of {A, B} -> B = A, {A, B, Y, Z, C} end", "Y Z|C|A B C Y Z"},
		{"f(case 1 of X -> X end, X = 1, case 2 of Y -> X end, Y)", "X|Y|X Y"},
	} {
		checkNamesOf(t, k.text, expOf(t, k.text), k.want)
	}
}

func TestClauseFree(t *testing.T) {
	for _, k := range []struct{ pats, body, want string }{
		{"", "1", ""},
		{"", "X", "X"},
		{"X", "X", ""},
		{"X, Y", "Z, Y, W, X, Z", "W Z"},
		{"X, X", "X", ""},
		{"{X, [Y | Z]}, [W]", "{X, Y, Z, W, V}", "V"},
		{"_, a, 1", "B, A", "A B"},
		{"", "X = 1, X", ""},
		{"", "X, X = 1", "X"},
		{"", "{X = 1}, case X of Y -> {X, Y} end, Y", "Y"},
		{"Y", "case 1 of Y -> Y end, Y", ""},
		{"", "case X = 1 of Y -> Z = Y end, {X, Y, Z}", "Y Z"},
		{"A", "B = C, {A, B, C, D}", "C D"},
		{"X", "X = Y, Y", "Y"},
	} {
		c := clauseOf(t, k.pats, k.body)
		if got := strings.Join(impl.ClauseFree(c), " "); got != k.want {
			t.Errorf("f(%s) -> %s: free are %s, not %s", k.pats, k.body, got, k.want)
		}
	}
}

func TestLoose(t *testing.T) {
	for _, k := range []struct{ funs, want string }{
		{"f() -> 1.", ""},
		{"f() -> X.", "f/0"},
		{"f(X) -> X.", ""},
		{"f(X) -> X; f(1) -> Y.", "f/1"},
		{"f(X) -> X; f(_) -> X; f(Y) -> X.", "f/1"},
		{"z() -> X. a(X) -> X. f(X, Y) -> Z. f(X) -> Y. b() -> 1.", "z/0 f/2 f/1"},
		{"f() -> X = 1, X. g() -> X, X = 1.", "g/0"},
		{"f() -> case 1 of X -> X end, X.", "f/0"},
		{"f() -> case X = 1 of Y -> Y end, X.", ""},
		{"f(X) -> g(X, Y = 1, Y). g(X, Y, Z) -> m:f(W).", "g/3"},
	} {
		m := parsed(t, "-module(m).\n-export([]).\n"+k.funs)
		if got := refsText(impl.Loose(m)); got != k.want {
			t.Errorf("%s: loose are %s, not %s", k.funs, got, k.want)
		}
	}
}

// What is wrong may stand in another function than the one that is loose.
func TestLooseOfNoModule(t *testing.T) {
	loose := impl.Fun{Name: "f", Clauses: []impl.Clause{clause(nil, variable("X"))}}
	good := impl.Module{Name: "m", Funs: []impl.Fun{loose}}
	if got := refsText(impl.Loose(good)); got != "f/0" {
		t.Fatal("loose", got)
	}
	bad := map[string]func(m *impl.Module){
		"no name":       func(m *impl.Module) { m.Name = "" },
		"no atom":       func(m *impl.Module) { m.Name = "M" },
		"export":        func(m *impl.Module) { m.Exports = []impl.Ref{{Name: "f", Arity: 7}} },
		"exports":       func(m *impl.Module) { m.Exports = []impl.Ref{{Name: "g"}, {Name: "f"}} },
		"no function":   func(m *impl.Module) { m.Funs = nil },
		"twice":         func(m *impl.Module) { m.Funs = append(m.Funs, loose) },
		"no clause":     func(m *impl.Module) { m.Funs = append(m.Funs, impl.Fun{Name: "g"}) },
		"arity":         func(m *impl.Module) { m.Funs[0].Arity = 1 },
		"no body":       func(m *impl.Module) { m.Funs[0].Clauses = append(m.Funs[0].Clauses, impl.Clause{}) },
		"any elsewhere": func(m *impl.Module) { m.Funs[0].Clauses[0].Body = []impl.Exp{variable("X"), anyOne()} },
		"no kid":        func(m *impl.Module) { m.Funs[0].Clauses[0].Body = []impl.Exp{variable("X"), tuple()} },
	}
	for what, spoil := range bad {
		m := roomy(good)
		spoil(&m)
		if got := impl.Loose(m); len(got) != 0 {
			t.Errorf("%s: loose are %v", what, got)
		}
	}
	if got := impl.Loose(impl.Module{}); len(got) != 0 {
		t.Error("the zero value", got)
	}
}

func TestCallsAndPuts(t *testing.T) {
	for _, k := range []struct {
		text, calls string
		puts        int
	}{
		{"1", "", 0},
		{"f", "", 0},
		{"{f, X}", "", 0},
		{"f()", "f/0", 1},
		{"m:f()", "", 1},
		{"put(1)", "put/1", 1},
		{"m:put(1)", "", 1},
		{"{f(), f(1), g(), m:f(1, 2), put(1), f()}", "f/0 f/1 g/0 put/1", 6},
		{"{f(1, 2), f(1), f(), f(1, 2, 3), f(1)}", "f/0 f/1 f/2 f/3", 5},
		{"{m:f(1), f(1), m:f(1)}", "f/1", 3},
		{"f(g(h(1), 2))", "f/1 g/2 h/1", 3},
		{"m:f(g(m:h(k())))", "g/1 k/0", 4},
		{"{z(), aB(), a_(), aa(), a()}", "a/0 aB/0 a_/0 aa/0 z/0", 5},
		{"X = f() + g()", "f/0 g/0", 2},
		{"[g() | f()]", "f/0 g/0", 2},
		{"case h() of _ -> g(1), k(); a -> f(1, 2), m:l() end", "f/2 g/1 h/0 k/0", 5},
		{"case 1 of _ -> case f() of _ -> f() end end", "f/0", 2},
	} {
		e := expOf(t, k.text)
		if got := refsText(impl.Calls(e)); got != k.calls || impl.Puts(e) != k.puts {
			t.Errorf("%s: calls are %s, and %d of them", k.text, got, impl.Puts(e))
		}
	}
}

// Wrong inputs: all that stands there is among the variables, and matches bind
// in any kind's kids, but Free tells only what the document names of each kind.
func TestNamesOfWrongExpressions(t *testing.T) {
	x, y, z := variable("X"), variable("Y"), variable("Z")
	odd := func(kind int, kids []impl.Exp, clauses ...impl.Clause) impl.Exp {
		return impl.Exp{Kind: kind, Kids: kids, Clauses: clauses}
	}
	list := func(kids ...impl.Exp) []impl.Exp { return kids }
	for _, k := range []struct {
		what string
		exp  impl.Exp
		want string
	}{
		{"a match of nothing", odd(impl.ExMatch, nil), "||"},
		{"a match of one", odd(impl.ExMatch, list(x)), "|X|X"},
		{"a match of three", odd(impl.ExMatch, list(x, y, z)), "|X Y Z|X Y Z"},
		{"a match of three, with one within", odd(impl.ExMatch, list(match(x, y), x, z)), "X|Y Z|X Y Z"},
		{"a match of one, with one within", odd(impl.ExMatch, list(match(x, x))), "X|X|X"},
		{"behind a match of one", tuple(odd(impl.ExMatch, list(x)), x), "|X|X"},
		{"a case of nothing", odd(impl.ExCase, nil), "||"},
		{"a case without a kid", odd(impl.ExCase, nil, clause(only(x), x, y)), "|Y|X Y"},
		{"a case without clauses", odd(impl.ExCase, list(match(x, y))), "X|Y|X Y"},
		{"a case with kids", odd(impl.ExCase, list(match(x, num(1)), match(y, x)), clause(only(anyOne()), x, y, z)), "X Y|Z|X Y Z"},
		{"a clause without patterns", odd(impl.ExCase, list(num(1)), clause(nil, x)), "|X|X"},
		{"a clause with patterns", odd(impl.ExCase, list(num(1)), clause(list(x, y), x, y, z)), "|Z|X Y Z"},
		{"a clause without a body", odd(impl.ExCase, list(num(1)), clause(only(x))), "||X"},
		{"a clause of nothing", odd(impl.ExCase, list(x), impl.Clause{}), "|X|X"},
		{"kind 11", odd(11, list(match(x, y), x)), "X|Y|X Y"},
		{"kind -1", odd(-1, list(x)), "|X|X"},
		{"kind 11 with a clause", odd(11, list(match(x, num(1)), y), clause(only(y), x, y, z)), "X|Y|X Y Z"},
		{"a number with kids", odd(impl.ExNum, list(match(x, num(1)), x, y)), "X|Y|X Y"},
		{"a number with a clause", odd(impl.ExNum, nil, clause(nil, x)), "||X"},
		{"a tuple of nothing", odd(impl.ExTuple, nil), "||"},
		{"a tuple with a clause", odd(impl.ExTuple, list(match(x, num(1)), y), clause(only(y), x, y, z)), "X|Y|X Y Z"},
		{"a call with a clause", odd(impl.ExCall, list(y), clause(nil, x)), "|Y|X Y"},
		{"an atom by a variable's name", atom("X"), "||"},
		{"a variable without a name", tuple(variable(""), x), "| X| X"},
		{"a pattern with a call", match(call("", "f", x, y), x), "X Y|X|X Y"},
	} {
		checkNamesOf(t, k.what, k.exp, k.want)
	}
	if got := impl.ClauseFree(impl.Clause{}); len(got) != 0 {
		t.Error("ClauseFree of nothing", got)
	}
}

// Of a variable itself is free, where it is not bound: nothing of what stands
// within it, though what a match there binds is bound behind it.
func TestNamesOfVariablesWithParts(t *testing.T) {
	x, y, z := variable("X"), variable("Y"), variable("Z")
	odd := func(name string, kids []impl.Exp, clauses ...impl.Clause) impl.Exp {
		return impl.Exp{Kind: impl.ExVar, Text: name, Kids: kids, Clauses: clauses}
	}
	for _, k := range []struct {
		what string
		exp  impl.Exp
		want string
	}{
		{"a kid", odd("X", only(y)), "|X|X Y"},
		{"a kid with a kid", odd("X", only(odd("Y", only(z)))), "|X|X Y Z"},
		{"itself for a kid", odd("X", only(x)), "|X|X"},
		{"a clause", odd("X", nil, clause(nil, y)), "|X|X Y"},
		{"a clause that binds it", odd("X", nil, clause(only(x), match(x, num(1)))), "|X|X"},
		{"a match", odd("X", only(match(y, z))), "Y|X|X Y Z"},
		{"a match that binds it", odd("X", only(match(x, y))), "X|X|X Y"},
		{"bound ahead", tuple(match(x, num(1)), odd("X", only(y), clause(nil, z))), "X||X Y Z"},
		{"bound behind", tuple(odd("X", only(y)), match(x, num(1)), y), "X|X Y|X Y"},
		{"a match, and what it binds behind", tuple(odd("X", only(match(y, z))), y, z), "Y|X Z|X Y Z"},
		{"a match deep within, and what it binds behind", tuple(odd("X", only(tuple(odd("Z", only(match(y, num(1))))))), y), "Y|X|X Y Z"},
		{"a match in a clause, and its variable behind", tuple(odd("X", nil, clause(nil, match(y, num(1)))), y), "|X Y|X Y"},
		{"ahead of what a match in it binds", tuple(y, odd("X", only(match(y, num(1))))), "Y|X Y|X Y"},
		{"a match that is a case's kid", cases(odd("X", only(match(y, num(1)))), clause(only(anyOne()), y, z)), "Y|X Z|X Y Z"},
		{"in a clause", cases(num(1), clause(only(x), odd("X", only(y)), odd("Z", only(x)))), "|Z|X Y Z"},
		{"in a match", match(x, odd("Y", only(z))), "X|Y|X Y Z"},
		{"in a pattern", tuple(match(odd("X", only(y)), num(1)), x, y), "X Y||X Y"},
	} {
		checkNamesOf(t, k.what, k.exp, k.want)
	}
}

// Of a match its second kid is free, and then its pattern binds: its clauses
// are not told, and neither are those of one with other than two kids.
func TestNamesOfMatchesWithClauses(t *testing.T) {
	x, y, z, w := variable("X"), variable("Y"), variable("Z"), variable("W")
	odd := func(kids []impl.Exp, clauses ...impl.Clause) impl.Exp {
		return impl.Exp{Kind: impl.ExMatch, Kids: kids, Clauses: clauses}
	}
	list := func(kids ...impl.Exp) []impl.Exp { return kids }
	for _, k := range []struct {
		what string
		exp  impl.Exp
		want string
	}{
		{"a clause", odd(list(x, none()), clause(nil, y)), "X||X Y"},
		{"a clause with what is told elsewhere", odd(list(x, y), clause(only(y), x, y, z)), "X|Y|X Y Z"},
		{"two clauses", odd(list(x, y), clause(nil, z), clause(nil, w)), "X|Y|W X Y Z"},
		{"a clause without a body", odd(list(x, y), clause(only(z))), "X|Y|X Y Z"},
		{"a clause with a match", tuple(odd(list(x, y), clause(nil, match(z, w))), x, z), "X|Y Z|W X Y Z"},
		{"a clause with its variable, which stands behind", tuple(odd(list(x, y), clause(nil, x)), x), "X|Y|X Y"},
		{"one in the other", odd(list(x, odd(list(y, z), clause(nil, w))), clause(nil, w)), "Y X|Z|W X Y Z"},
		{"in a clause", cases(num(1), clause(only(z), odd(list(x, z), clause(nil, y)), x)), "||X Y Z"},
		{"a case's kid", cases(odd(list(x, y), clause(nil, z)), clause(only(anyOne()), x)), "X|Y|X Y Z"},
		{"a case within", odd(list(x, cases(y, clause(only(anyOne()), z))), clause(nil, w)), "X|Y Z|W X Y Z"},
		{"no kid", odd(nil, clause(nil, y)), "||Y"},
		{"one kid", odd(list(x), clause(nil, y)), "|X|X Y"},
		{"three kids", odd(list(x, y, z), clause(nil, w)), "|X Y Z|W X Y Z"},
	} {
		checkNamesOf(t, k.what, k.exp, k.want)
		c := clause(nil, k.exp)
		if got := strings.Join(impl.ClauseFree(c), " "); got != strings.Split(k.want, "|")[1] {
			t.Errorf("%s: free in a clause's body are %s", k.what, got)
		}
	}
}

func TestCallsOfWrongExpressions(t *testing.T) {
	f := call("", "f")
	for _, e := range []impl.Exp{
		{Kind: impl.ExNum, Kids: []impl.Exp{f, f}},
		{Kind: 11, Kids: []impl.Exp{f, f}},
		{Kind: impl.ExMatch, Kids: []impl.Exp{f, f}},
		{Kind: impl.ExMatch, Kids: []impl.Exp{f, f, num(1)}},
		{Kind: impl.ExTuple, Clauses: []impl.Clause{{Pats: []impl.Exp{f}, Body: []impl.Exp{f}}}},
		{Kind: impl.ExCase, Clauses: []impl.Clause{{Body: []impl.Exp{f}}, {Pats: []impl.Exp{num(1), f}}}},
	} {
		if got := refsText(impl.Calls(e)); got != "f/0" || impl.Puts(e) != 2 {
			t.Errorf("%v: calls are %s, and %d of them", e, got, impl.Puts(e))
		}
	}
	many := call("", "F", num(1), num(2), num(3), num(4), num(5), num(6), num(7))
	if got := refsText(impl.Calls(many)); got != "F/7" || impl.Puts(many) != 1 {
		t.Error("seven kids", got, impl.Puts(many))
	}
}

// step is a name that is bound or wanted, within some clauses, one within the other.
type step struct {
	name  string
	binds bool
	in    []int
}

// stepsOf are the names of an expression in the order in which they are come by.
type stepsOf struct {
	list    []step
	clauses int
}

func (s *stepsOf) pattern(e impl.Exp, in []int) {
	inner := stepsOf{}
	inner.all(e)
	for _, name := range inner.list {
		s.list = append(s.list, step{name.name, true, in})
	}
}

// all tells every variable, as if nothing were a match.
func (s *stepsOf) all(e impl.Exp) {
	if e.Kind == impl.ExVar {
		s.list = append(s.list, step{name: e.Text})
	}
	for _, kid := range e.Kids {
		s.all(kid)
	}
	for _, c := range e.Clauses {
		for _, x := range slices.Concat(c.Pats, c.Body) {
			s.all(x)
		}
	}
}

func (s *stepsOf) exp(e impl.Exp, in []int) {
	switch {
	case e.Kind == impl.ExMatch && len(e.Kids) == 2:
		s.exp(e.Kids[1], in)
		s.pattern(e.Kids[0], in)
	case e.Kind == impl.ExVar:
		s.list = append(s.list, step{e.Text, false, in})
		s.boundWithin(e, in)
	default:
		for _, kid := range e.Kids {
			s.exp(kid, in)
		}
	}
	if e.Kind == impl.ExCase {
		for _, c := range e.Clauses {
			s.clause(c, in)
		}
	}
}

// boundWithin tells what the kids bind for what stands behind, and nothing that they want.
func (s *stepsOf) boundWithin(e impl.Exp, in []int) {
	inner := stepsOf{}
	for _, kid := range e.Kids {
		inner.exp(kid, nil)
	}
	for _, name := range inner.bound() {
		s.list = append(s.list, step{name, true, in})
	}
}

func (s *stepsOf) clause(c impl.Clause, in []int) {
	s.clauses++
	in = append(slices.Clone(in), s.clauses)
	for _, pat := range c.Pats {
		s.pattern(pat, in)
	}
	for _, e := range c.Body {
		s.exp(e, in)
	}
}

// isBound tells whether something ahead of a step binds its name in a clause that it stands in, or in none.
func (s *stepsOf) isBound(at int) bool {
	for _, ahead := range s.list[:at] {
		in := s.list[at].in
		if ahead.binds && ahead.name == s.list[at].name && len(ahead.in) <= len(in) && slices.Equal(ahead.in, in[:len(ahead.in)]) {
			return true
		}
	}
	return false
}

func (s *stepsOf) free() []string {
	list := []string{}
	for i, one := range s.list {
		if !one.binds && !s.isBound(i) {
			list = append(list, one.name)
		}
	}
	return sortedOnce(list)
}

func (s *stepsOf) bound() []string {
	list := []string{}
	for _, one := range s.list {
		if one.binds && len(one.in) == 0 && !slices.Contains(list, one.name) {
			list = append(list, one.name)
		}
	}
	return list
}

func sortedOnce(list []string) []string {
	slices.Sort(list)
	return slices.Compact(list)
}

func slowNamesText(e impl.Exp) string {
	steps, all := stepsOf{}, stepsOf{}
	steps.exp(e, nil)
	all.all(e)
	vars := []string{}
	for _, one := range all.list {
		vars = append(vars, one.name)
	}
	return strings.Join(steps.bound(), " ") + "|" + strings.Join(steps.free(), " ") + "|" + strings.Join(sortedOnce(vars), " ")
}

func slowClauseFree(c impl.Clause) []string {
	steps := stepsOf{}
	steps.clause(c, nil)
	return steps.free()
}

func (m maker) anyExp() impl.Exp {
	switch m.Intn(3) {
	case 0:
		return m.exp(4, false)
	case 1:
		return m.oddExp(3)
	}
	return m.scopeExp(4)
}

func TestNamesAgainstSteps(t *testing.T) {
	m := newMaker(41)
	for range 12000 {
		e := m.anyExp()
		if got, want := namesText(e), slowNamesText(e); got != want {
			t.Fatalf("%+v: bound, free and all are %s, not %s", e, got, want)
		}
	}
}

func TestClauseFreeAgainstSteps(t *testing.T) {
	m := newMaker(42)
	for range 6000 {
		c := m.oddClause(3)
		if m.Intn(2) == 0 {
			c = clause([]impl.Exp{m.scopePattern(), m.scopePattern()}, m.scopeExps(1+m.Intn(3), 3)...)
		}
		got := strings.Join(impl.ClauseFree(c), " ")
		if want := strings.Join(slowClauseFree(c), " "); got != want {
			t.Fatalf("%+v: free are %s, not %s", c, got, want)
		}
		asCase := cases(num(1), clause(only(tuple(c.Pats...)), c.Body...))
		if want := strings.Join(impl.Free(asCase), " "); got != want {
			t.Fatalf("%+v: free are %s, but %s as a case", c, got, want)
		}
	}
}

// P4: what is free or bound in an expression stands in it.
func TestFreeAndBoundStandInIt(t *testing.T) {
	m := newMaker(43)
	for range 6000 {
		e := m.anyExp()
		bound, free, vars := impl.Bound(e), impl.Free(e), impl.Vars(e)
		for _, name := range slices.Concat(bound, free) {
			if !slices.Contains(vars, name) {
				t.Fatalf("%s is free or bound in %+v, and does not stand in it", name, e)
			}
		}
		checkAscending(t, free)
		checkAscending(t, vars)
		checkAscending(t, sortedCopy(bound))
		if impl.Puts(e) < len(impl.Calls(e)) {
			t.Fatalf("%+v: %v, and %d calls", e, impl.Calls(e), impl.Puts(e))
		}
	}
}

// sortedCopy has what is there twice twice.
func sortedCopy(list []string) []string {
	return slices.Sorted(slices.Values(list))
}

func checkAscending(t *testing.T, list []string) {
	t.Helper()
	for i := 1; i < len(list); i++ {
		if list[i-1] >= list[i] {
			t.Fatalf("%s stands ahead of %s", list[i-1], list[i])
		}
	}
}

// bodyWords are the words of a good expression, as it is shown.
func bodyWords(t *testing.T, e impl.Exp) []impl.Token {
	t.Helper()
	_, body, found := strings.Cut(impl.Show(bodied(e)), " -> ")
	words, line := impl.Lex(body)
	if !found || line != 0 {
		t.Fatalf("%+v is shown as %s", e, body)
	}
	return words
}

// kidsBehind counts what stands in the round brackets at a word.
func kidsBehind(words []impl.Token, at int) int {
	if words[at+1].Text == ")" {
		return 0
	}
	deep, count := 0, 1
	for _, w := range words[at:] {
		switch w.Text {
		case "(", "[", "{":
			deep++
		case ")", "]", "}":
			deep--
		case ",":
			if deep == 1 {
				count++
			}
		}
		if deep == 0 {
			break
		}
	}
	return count
}

func TestVarsAndCallsAgainstWords(t *testing.T) {
	m := newMaker(44)
	checked := 0
	for range 4000 {
		e := m.exp(4, false)
		if len(impl.Show(bodied(e))) > impl.MaxText {
			continue
		}
		checked++
		words := bodyWords(t, e)
		vars, calls, puts := []string{}, []string{}, 0
		for i, w := range words {
			switch {
			case w.Kind == impl.TokVar:
				vars = append(vars, w.Text)
			case w.Kind == impl.TokAtom && words[i+1].Text == "(":
				puts++
				if i == 0 || words[i-1].Text != ":" {
					calls = append(calls, w.Text+"/"+strconv.Itoa(kidsBehind(words, i+1)))
				}
			}
		}
		if got := impl.Vars(e); !slices.Equal(got, sortedOnce(vars)) {
			t.Fatalf("%+v: all are %v", e, got)
		}
		got := strings.Fields(refsText(impl.Calls(e)))
		if !slices.Equal(sortedCopy(got), sortedOnce(calls)) || impl.Puts(e) != puts {
			t.Fatalf("%+v: calls are %v, and %d of them", e, got, impl.Puts(e))
		}
	}
	if checked < 1000 {
		t.Error("too few were checked:", checked)
	}
}

func TestCallsStandInOrder(t *testing.T) {
	m := newMaker(45)
	for range 4000 {
		list := impl.Calls(m.anyExp())
		for i := 1; i < len(list); i++ {
			a, b := list[i-1], list[i]
			if a.Name > b.Name || a.Name == b.Name && a.Arity >= b.Arity {
				t.Fatalf("%v stands ahead of %v", a, b)
			}
		}
	}
}

func TestLooseAgainstClauseFree(t *testing.T) {
	m := newMaker(46)
	for range 600 {
		made := m.module(3)
		want := []impl.Ref{}
		for _, f := range made.Funs {
			if slices.ContainsFunc(f.Clauses, func(c impl.Clause) bool { return len(slowClauseFree(c)) > 0 }) {
				want = append(want, impl.Ref{Name: f.Name, Arity: f.Arity})
			}
		}
		if got := impl.Loose(made); !slices.Equal(got, want) {
			t.Fatalf("%s: loose are %v, not %v", impl.Show(made), got, want)
		}
	}
}

// Names are gone through in any order within, and told in one.
func TestNamesAreToldTheSameAgain(t *testing.T) {
	kids := []impl.Exp{}
	for i := range 40 {
		kids = append(kids, variable("X"+strconv.Itoa(i)), match(variable("Y"+strconv.Itoa(39-i)), call("", "f"+strconv.Itoa(i))))
	}
	e := tuple(kids...)
	want, calls := namesText(e), refsText(impl.Calls(e))
	for range 50 {
		if got := namesText(e); got != want || refsText(impl.Calls(e)) != calls {
			t.Fatal("other names", got, want)
		}
	}
	if want != slowNamesText(e) {
		t.Error("names", want)
	}
}

func TestNamesMemory(t *testing.T) {
	m := newMaker(47)
	for range 1500 {
		e := m.anyExp()
		checkUntouched(t, e, func(e impl.Exp) {
			checkApart(t, impl.Bound(e), e)
			checkApart(t, impl.Free(e), e)
			checkApart(t, impl.Vars(e), e)
			checkApart(t, impl.Calls(e), e)
			impl.Puts(e)
		})
		checkUntouched(t, m.oddClause(2), func(c impl.Clause) { checkApart(t, impl.ClauseFree(c), c) })
	}
	for range 200 {
		checkUntouched(t, m.module(2), func(made impl.Module) { checkApart(t, impl.Loose(made), made) })
	}
}

// What is answered is kept by nobody: to write into it changes no later answer.
func TestNamesAnswersApart(t *testing.T) {
	e := expOf(t, "{Y = 1, X, f(Z), g()}")
	want, calls := namesText(e), refsText(impl.Calls(e))
	for _, list := range [][]string{impl.Bound(e), impl.Free(e), impl.Vars(e)} {
		for i := range list {
			list[i] = "gone"
		}
	}
	clear(impl.Calls(e))
	if namesText(e) != want || refsText(impl.Calls(e)) != calls {
		t.Error("an answer was kept")
	}
}

func TestNamesOfDeepAndWideExpressions(t *testing.T) {
	deep := tuple(variable("X"), call("", "f"))
	for i := range 50000 {
		switch i % 4 {
		case 0:
			deep = tuple(deep)
		case 1:
			deep = match(variable("A"), deep)
		case 2:
			deep = cases(num(1), clause(only(variable("B")), deep))
		default:
			deep = cases(deep, clause(only(anyOne()), variable("A")))
		}
	}
	if got := namesText(deep); got != "|A X|A B X" {
		t.Error("deep", got)
	}
	if impl.Puts(deep) != 1 || refsText(impl.Calls(deep)) != "f/0" {
		t.Error("deep calls", impl.Calls(deep))
	}
	wide := impl.Exp{Kind: impl.ExTuple}
	for i := range 50000 {
		wide.Kids = append(wide.Kids, match(variable("X"+strconv.Itoa(i)), num(1)), call("", "f", variable("X"+strconv.Itoa(i))))
	}
	if len(impl.Bound(wide)) != 50000 || len(impl.Free(wide)) != 0 || len(impl.Vars(wide)) != 50000 || impl.Puts(wide) != 50000 || len(impl.Calls(wide)) != 1 {
		t.Error("wide")
	}
}
