package tests

import (
	"math"
	"slices"
	"strconv"
	"strings"
	"testing"

	"loop.example/g00377/impl"
)

// callSpots are where a call may stand.
var callSpots = []string{
	"@", "1, @", "@, 1", "{1, @}", "[@ | @]", "[X, @]", "1 + @ * 2", "@ == 1", "Y = @", "{Y, [_ | Z]} = {@, [1]}, Z", "put(@)", "{put({@}), m:none(@)}",
	"case @ of Z -> Z end", "case X of 1 -> @; {f, _} -> 2, [Y = @]; f -> {f, @} end", "case X of _ -> case @ of f -> @ end end",
}

// shift is a call ahead of a function's way to another module, and behind it.
type shift struct{ before, after string }

// spotted are both with the call in the place of each @.
func (s shift) spotted(spot string) shift {
	return shift{strings.ReplaceAll(spot, "@", s.before), strings.ReplaceAll(spot, "@", s.after)}
}

// checkShifts wants a:f/1 to go to b. Each of these stands in it, in its old module, in b and in a third one.
func checkShifts(t *testing.T, exports string, own, home, goal, third shift) {
	t.Helper()
	with := strings.Replace(exports, "f/1, ", "", 1)
	m := module(t, "m", "none/1", "none(X) -> X.")
	p := []impl.Module{
		module(t, "a", exports, "e(X) -> "+home.before+". f(X) -> "+own.before+". f(X, Y) -> {X, Y}. f() -> f. h(X) -> X."),
		module(t, "b", "k/1", "k(X) -> "+goal.before+"."),
		module(t, "c", "f/1, h/1, k/1", "f(X) -> X. h(X) -> X. k(X) -> "+third.before+"."), m,
	}
	want := []impl.Module{
		module(t, "a", with, "e(X) -> "+home.after+". f(X, Y) -> {X, Y}. f() -> f. h(X) -> X."),
		module(t, "b", "f/1, k/1", "k(X) -> "+goal.after+". f(X) -> "+own.after+"."),
		module(t, "c", "f/1, h/1, k/1", "f(X) -> X. h(X) -> X. k(X) -> "+third.after+"."), m,
	}
	got, code := impl.Move(p, place("a", "f", 1, 0), "b")
	checkMade(t, p, got, code, want)
}

// Each call, wherever it stands, ahead of the change and behind it.
func TestMoveOfEachCall(t *testing.T) {
	kept := shift{"X", "X"}
	const exports, hidden = "e/1, f/0, f/1, f/2, h/1", "e/1, f/0, f/2, h/1"
	for _, spot := range callSpots {
		// In the function: itself, its old module's, put/1, other modules'.
		for _, s := range []shift{
			{"f(X)", "f(X)"}, {"a:f(X)", "b:f(X)"}, {"h(X)", "a:h(X)"}, {"a:h(X)", "a:h(X)"}, {"e(X)", "a:e(X)"}, {"f()", "a:f()"}, {"f(X, 1)", "a:f(X, 1)"}, {"a:f()", "a:f()"}, {"a:f(X, 1)", "a:f(X, 1)"},
			{"put(X)", "put(X)"}, {"b:k(X)", "b:k(X)"}, {"c:k(X)", "c:k(X)"}, {"c:f(X)", "c:f(X)"}, {"c:h(X)", "c:h(X)"}, {"f", "f"}, {"{f, h, a, b, f}", "{f, h, a, b, f}"},
			{"f(a:f(h(f(h(a:h(put(X)))))))", "f(b:f(a:h(f(a:h(a:h(put(X)))))))"}, {"f(f(), h(f(X)))", "a:f(a:f(), a:h(f(X)))"},
		} {
			checkShifts(t, exports, s.spotted(spot), kept, kept, kept)
			if !strings.Contains(s.before, "a:f(X)") && !strings.Contains(s.before, "a:f(h") {
				checkShifts(t, hidden, s.spotted(spot), kept, kept, kept)
			}
		}
		// In its old module, in that it goes to and in a third one.
		for _, s := range []shift{{"f(X)", "b:f(X)"}, {"a:f(X)", "b:f(X)"}, {"h(X)", "h(X)"}, {"a:h(X)", "a:h(X)"}, {"e(f(X))", "e(b:f(X))"}, {"f(f(X, f()))", "b:f(f(X, f()))"}, {"b:k(X)", "b:k(X)"}, {"c:f(X)", "c:f(X)"}, {"f", "f"}, {"put(X)", "put(X)"}} {
			checkShifts(t, exports, kept, s.spotted(spot), kept, kept)
		}
		checkShifts(t, hidden, kept, shift{"f(X)", "b:f(X)"}.spotted(spot), kept, kept)
		for _, s := range []shift{{"a:f(X)", "b:f(X)"}, {"a:f(a:f(a:f(), a:f(X)))", "b:f(a:f(a:f(), b:f(X)))"}, {"a:h(X)", "a:h(X)"}, {"k(X)", "k(X)"}, {"b:k(X)", "b:k(X)"}, {"c:f(X)", "c:f(X)"}, {"{f, a, b}", "{f, a, b}"}} {
			checkShifts(t, exports, kept, kept, s.spotted(spot), kept)
			checkShifts(t, exports, kept, kept, kept, s.spotted(spot))
		}
		for _, s := range []shift{{"f(X)", "f(X)"}, {"c:f(X)", "c:f(X)"}, {"f(a:f(c:f(X)))", "f(b:f(c:f(X)))"}} {
			checkShifts(t, exports, kept, kept, kept, s.spotted(spot))
		}
	}
}

// The  of spots is asked for as m's in moved functions, for a's own would be shown as a:none there.
func TestMoveOfAll(t *testing.T) {
	p := []impl.Module{
		module(t, "a", "e/0, f/1, g/2, h/1", "e() -> f(1), a:f(f(2)), {f, f}, g(3, 4). f(0) -> put(f); f([]) -> {g(h(1), f([])), a:f(1)}; f(X) -> case h(X) of {f, Y} -> f(Y); _ -> a:g(X, b:k()), c:f(X) end. g(X, Y) -> f({X, Y}). h(X) -> X."),
		module(t, "b", "k/0", "k() -> a:f(a:h(1)), l(). l() -> {k(), a:f(2)}."),
		module(t, "c", "f/1", "f(X) -> case X of 0 -> a:f(c:f(f(X))); _ -> X end."),
	}
	want := []impl.Module{
		module(t, "a", "e/0, g/2, h/1", "e() -> b:f(1), b:f(b:f(2)), {f, f}, g(3, 4). g(X, Y) -> b:f({X, Y}). h(X) -> X."),
		module(t, "b", "f/1, k/0", "k() -> b:f(a:h(1)), l(). l() -> {k(), b:f(2)}. f(0) -> put(f); f([]) -> {a:g(a:h(1), f([])), b:f(1)}; f(X) -> case a:h(X) of {f, Y} -> f(Y); _ -> a:g(X, b:k()), c:f(X) end."),
		module(t, "c", "f/1", "f(X) -> case X of 0 -> b:f(c:f(f(X))); _ -> X end."),
	}
	for _, clause := range []int{0, 1, 2, 3, -1, math.MaxInt, math.MinInt, 1 << 32} {
		got, code := impl.Move(p, place("a", "f", 1, clause), "b")
		checkMade(t, p, got, code, want)
	}
	// Back again it stands last, and its calls have its old module's name.
	back, code := impl.Move(want, place("b", "f", 1, 0), "a")
	checkMade(t, want, back, code, []impl.Module{
		module(t, "a", "e/0, f/1, g/2, h/1", "e() -> a:f(1), a:f(a:f(2)), {f, f}, g(3, 4). g(X, Y) -> a:f({X, Y}). h(X) -> X. f(0) -> put(f); f([]) -> {a:g(a:h(1), f([])), a:f(1)}; f(X) -> case a:h(X) of {f, Y} -> f(Y); _ -> a:g(X, b:k()), c:f(X) end."),
		module(t, "b", "k/0", "k() -> a:f(a:h(1)), l(). l() -> {k(), a:f(2)}."), p[2],
	})
}

// layoutText tells a module's exports and functions in their order.
func layoutText(m impl.Module) string {
	list := []string{}
	for _, ref := range m.Exports {
		list = append(list, ref.Name+"/"+strconv.Itoa(ref.Arity))
	}
	list = append(list, "|")
	for _, f := range m.Funs {
		list = append(list, f.Name+"/"+strconv.Itoa(f.Arity))
	}
	return strings.Join(list, " ")
}

// The function stands last, its export where it belongs; all others stay in their order.
func TestMoveOrder(t *testing.T) {
	a := "z() -> 1. d(X) -> X. b() -> 1. f(X, Y) -> {X, Y}. a(X) -> X. b1() -> 1. hidden() -> 2. d() -> 3."
	c := module(t, "c", "b/1, d/0, d/2, f/1", "f(X) -> X. d(X, Y) -> {X, Y}. hidden(X) -> X. d() -> 1. b(X) -> X.")
	for _, k := range []struct {
		name              string
		arity             int
		exports, home, to string
	}{
		{"z", 0, "z/0", "| d/1 b/0 f/2 a/1 b1/0 hidden/0 d/0", "b/1 d/0 d/2 f/1 z/0 | f/1 d/2 hidden/1 d/0 b/1 z/0"},
		{"z", 0, "", "| d/1 b/0 f/2 a/1 b1/0 hidden/0 d/0", "b/1 d/0 d/2 f/1 z/0 | f/1 d/2 hidden/1 d/0 b/1 z/0"},
		{"d", 1, "d/0, d/1, z/0", "d/0 z/0 | z/0 b/0 f/2 a/1 b1/0 hidden/0 d/0", "b/1 d/0 d/1 d/2 f/1 | f/1 d/2 hidden/1 d/0 b/1 d/1"},
		{"d", 1, "d/0", "d/0 | z/0 b/0 f/2 a/1 b1/0 hidden/0 d/0", "b/1 d/0 d/1 d/2 f/1 | f/1 d/2 hidden/1 d/0 b/1 d/1"},
		{"b", 0, "a/1, b/0, b1/0", "a/1 b1/0 | z/0 d/1 f/2 a/1 b1/0 hidden/0 d/0", "b/0 b/1 d/0 d/2 f/1 | f/1 d/2 hidden/1 d/0 b/1 b/0"},
		{"f", 2, "b/0, f/2, z/0", "b/0 z/0 | z/0 d/1 b/0 a/1 b1/0 hidden/0 d/0", "b/1 d/0 d/2 f/1 f/2 | f/1 d/2 hidden/1 d/0 b/1 f/2"},
		{"a", 1, "a/1", "| z/0 d/1 b/0 f/2 b1/0 hidden/0 d/0", "a/1 b/1 d/0 d/2 f/1 | f/1 d/2 hidden/1 d/0 b/1 a/1"},
		{"b1", 0, "b/0, b1/0", "b/0 | z/0 d/1 b/0 f/2 a/1 hidden/0 d/0", "b/1 b1/0 d/0 d/2 f/1 | f/1 d/2 hidden/1 d/0 b/1 b1/0"},
		{"hidden", 0, "", "| z/0 d/1 b/0 f/2 a/1 b1/0 d/0", "b/1 d/0 d/2 f/1 hidden/0 | f/1 d/2 hidden/1 d/0 b/1 hidden/0"},
	} {
		for _, name := range []string{"a", "m"} {
			p, home, goal := []impl.Module{module(t, name, k.exports, a), c}, 0, 1
			if name == "m" {
				p, home, goal = []impl.Module{c, p[0]}, 1, 0
			}
			got, code := impl.Move(p, place(name, k.name, k.arity, 0), "c")
			if code != impl.EdOk || !impl.Good(got) || strings.TrimSpace(layoutText(got[home])) != k.home || layoutText(got[goal]) != k.to {
				t.Errorf("%+v: %d %s; %s", k, code, layoutText(got[home]), layoutText(got[goal]))
			}
		}
	}
}

// The first module, the last and one between may be the one that it leaves or goes to.
func TestMoveBetweenModules(t *testing.T) {
	names := []string{"a", "a1", "aB", "m", "z"}
	texts := func(name string) string { return "f" + name + "(X) -> f" + name + "({X}). k() -> f" + name + "(1). " }
	program := func(from, to int) []impl.Module {
		p := []impl.Module{}
		for i, name := range names {
			exports, funs := "f"+name+"/1", texts(name)+"l() -> "+names[from]+":f"+names[from]+"(2)."
			if i == from && to >= 0 {
				exports, funs = "", "k() -> "+names[to]+":f"+name+"(1). l() -> "+names[to]+":f"+name+"(2)."
			} else if to >= 0 {
				funs = texts(name) + "l() -> " + names[to] + ":f" + names[from] + "(2)."
			}
			if i == to {
				refs := []string{"f" + name + "/1", "f" + names[from] + "/1"}
				slices.Sort(refs)
				exports, funs = strings.Join(refs, ", "), funs+"f"+names[from]+"(X) -> f"+names[from]+"({X})."
			}
			p = append(p, module(t, name, exports, funs))
		}
		return p
	}
	for from := range names {
		p := program(from, -1)
		at := place(names[from], "f"+names[from], 1, 0)
		for to := range names {
			if to == from {
				checkMoveCode(t, p, at, names[to], impl.EdShape)
				continue
			}
			got, code := impl.Move(p, at, names[to])
			checkMade(t, p, got, code, program(from, to))
		}
	}
}

// put/1 is no function, but where the module has one of its own.
func TestMoveAndPut(t *testing.T) {
	const f = "f(X) -> put(X), {put({X}), 1}. g() -> 1. "
	const own, asOwn = "put(X) -> {own, X}.", "f(X) -> a:put(X), {a:put({X}), 1}."
	plainB, ownB := module(t, "b", "", "k() -> 1."), module(t, "b", "put/1", "k() -> put(2). "+own)
	at := place("a", "f", 1, 0)
	// Of no module: not to one that has such a function, exported or not.
	p := []impl.Module{module(t, "a", "f/1", f), plainB}
	got, code := impl.Move(p, at, "b")
	checkMade(t, p, got, code, []impl.Module{module(t, "a", "", "g() -> 1."), module(t, "b", "f/1", "k() -> 1. f(X) -> put(X), {put({X}), 1}.")})
	checkRunOf(t, p, "a", "f", []impl.Val{numVal(1)}, enough, "ok {{1}, 1} >1 >{1}")
	checkRunOf(t, got, "b", "f", []impl.Val{numVal(1)}, enough, "ok {{1}, 1} >1 >{1}")
	hiddenB := roomy(ownB)
	hiddenB.Exports = nil
	checkMoveCode(t, []impl.Module{p[0], ownB}, at, "b", impl.EdShape)
	checkMoveCode(t, []impl.Module{p[0], hiddenB}, at, "b", impl.EdShape)
	// Of its old module: it is called by that module's name, if it may be.
	for _, b := range []impl.Module{plainB, ownB, hiddenB} {
		q := []impl.Module{module(t, "a", "f/1, put/1", f+own), b}
		got, code = impl.Move(q, at, "b")
		want := roomy(b)
		want.Exports = append([]impl.Ref{{Name: "f", Arity: 1}}, b.Exports...)
		want.Funs = append(want.Funs, module(t, "b", "", asOwn).Funs...)
		checkMade(t, q, got, code, []impl.Module{module(t, "a", "put/1", "g() -> 1. "+own), want})
		checkRunOf(t, q, "a", "f", []impl.Val{numVal(1)}, enough, "ok {{own, {1}}, 1}")
		checkRunOf(t, got, "b", "f", []impl.Val{numVal(1)}, enough, "ok {{own, {1}}, 1}")
		checkMoveCode(t, []impl.Module{module(t, "a", "f/1", f+own), b}, at, "b", impl.EdShape)
	}
	// By a module's name it is that module's, wherever the call stands.
	q := []impl.Module{module(t, "a", "", "f(X) -> b:put(X). g() -> 1."), ownB}
	got, code = impl.Move(q, at, "b")
	checkMade(t, q, got, code, []impl.Module{module(t, "a", "", "g() -> 1."), module(t, "b", "f/1, put/1", "k() -> put(2). "+own+" f(X) -> b:put(X).")})
	// Of another number of parameters put is a function like others.
	q = []impl.Module{module(t, "a", "put/0", "f(X) -> put(), put(X). put() -> 1. put(X, Y) -> f(X)."), module(t, "b", "", "k() -> put(), put(1, 2). put() -> 2. put(X, Y) -> 1.")}
	got, code = impl.Move(q, at, "b")
	checkMade(t, q, got, code, []impl.Module{module(t, "a", "put/0", "put() -> 1. put(X, Y) -> b:f(X)."), module(t, "b", "f/1", "k() -> put(), put(1, 2). put() -> 2. put(X, Y) -> 1. f(X) -> a:put(), put(X).")})
	checkMoveCode(t, q, place("a", "put", 0, 0), "b", impl.EdTaken)
	q = []impl.Module{q[0], module(t, "b", "put/1", "k() -> 1. "+own)}
	got, code = impl.Move(q, place("a", "put", 0, 0), "b")
	checkMade(t, q, got, code, []impl.Module{module(t, "a", "", "f(X) -> b:put(), put(X). put(X, Y) -> f(X)."), module(t, "b", "put/0, put/1", "k() -> 1. "+own+" put() -> 1.")})
	checkMoveCode(t, q, at, "b", impl.EdShape)
}

// put/1 itself stays where it is, also where it would stay there.
func TestMovePut(t *testing.T) {
	p := []impl.Module{module(t, "a", "put/1", "put(X) -> X. g() -> put(1)."), module(t, "b", "", "k() -> 1."), module(t, "c", "put/1", "put(X) -> {X}. h() -> 1."), module(t, "d", "put/1", "put(X) -> X.")}
	for _, mod := range []string{"a", "c", "d"} {
		for _, to := range []string{"a", "b", "c", "d"} {
			checkMoveCode(t, p, place(mod, "put", 1, 0), to, impl.EdTaken)
		}
		checkMoveCode(t, p, place(mod, "put", 1, 0), "q", impl.EdNone)
		checkMoveCode(t, p, place(mod, "put", 2, 0), "b", impl.EdNone)
	}
	checkMoveCode(t, p, place("b", "put", 1, 0), "a", impl.EdNone)
	checkMoveCode(t, p, place("b", "put", 1, 0), "b", impl.EdNone)
}

func checkMoveCode(t *testing.T, p []impl.Module, at impl.Place, to string, want int) {
	t.Helper()
	got, code := impl.Move(p, at, to)
	checkRefused(t, plain(at)+" to "+to, p, got, code, want)
}

// placesOfNoFunction are those of no function of the good program of cutCodes.
var placesOfNoFunction = []impl.Place{
	{}, place("q", "f", 2, 0), place("", "f", 2, 0), place("M", "f", 2, 0), place("m", "q", 2, 0), place("m", "", 2, 0), place("m", "put", 1, 0),
	place("m", "f", 1, 0), place("m", "f", 3, 0), place("m", "f", -2, 0), place("a", "f", 2, 0), place("a", "g", 0, 0), place("m", "g", 1, 0),
	place("m", "f", math.MaxInt, 0), place("m", "f", math.MinInt, 0), place("m", "f", 1<<32+2, 0), place("m:f", "f", 2, 0), place("m", "f/2", 2, 0), place("m", "f\x00", 2, 0),
}

func TestMoveCodes(t *testing.T) {
	good, bad := cutCodes(t)
	at := place("m", "g", 0, 0)
	for _, p := range bad {
		for _, to := range append(wrongNames, "a", "m", "q") {
			checkMoveCode(t, p, at, to, impl.EdBad)
			checkMoveCode(t, p, place("q", "f", 2, 9), to, impl.EdBad)
			checkMoveCode(t, p, place("a", "f", 1, 0), to, impl.EdBad)
		}
	}
	for _, to := range append(wrongNames, "a", "m", "q", "put", "aa", "a ", "a\x00", "\xff") {
		for _, wrong := range placesOfNoFunction {
			checkMoveCode(t, good, wrong, to, impl.EdNone)
		}
		checkMoveCode(t, nil, at, to, impl.EdNone)
		checkMoveCode(t, []impl.Module{}, at, to, impl.EdNone)
		if to != "a" && to != "m" {
			checkMoveCode(t, good, at, to, impl.EdNone)
			checkMoveCode(t, good, place("a", "f", 1, 0), to, impl.EdNone)
		}
	}
	checkMoveCode(t, good, at, "m", impl.EdShape)
	checkMoveCode(t, good, place("a", "f", 1, 0), "a", impl.EdShape)
	checkMoveCode(t, good, place("a", "f", 1, 0), "m", impl.EdShape)
	got, code := impl.Move(good, at, "a")
	checkMade(t, good, got, code, []impl.Module{module(t, "a", "f/1, g/0", "f(X) -> m:f(X, 1). g() -> 1."), module(t, "m", "f/2", "f(X, Y) -> Z = X, a:g(), {Z, Y}; f(_, 1) -> 1; f(_, _) -> 1, 2. h(X) -> X.")})
}

// Of several that are so the first one counts.
func TestMoveFirstCode(t *testing.T) {
	one := "k() -> 1. l(X) -> X. "
	full := one + crowd(28)
	for _, k := range []struct {
		home, exports, goal string
		to                  string
		want                int
	}{
		{"f() -> 1. h() -> 2.", "", one, "b", impl.EdOk},
		{"f() -> 1. h() -> 2.", "", full, "b", impl.EdFull},
		{"f() -> 1. h() -> 2.", "", full, "q", impl.EdNone},
		{"f() -> 1. h() -> 2.", "", one + "f() -> 3.", "b", impl.EdTaken},
		{"f() -> 1. h() -> 2.", "", one + "f() -> 3. " + crowd(27), "b", impl.EdTaken},
		{"f() -> 1. h() -> 2.", "", one + "f() -> 3.", "a", impl.EdShape},
		{"f() -> 1. h() -> 2.", "", one + "f(X) -> 3.", "b", impl.EdOk},
		// The only one there.
		{"f() -> 1.", "f/0", one, "b", impl.EdShape},
		{"f() -> 1.", "f/0", full, "b", impl.EdShape},
		{"f() -> 1.", "f/0", one + "f() -> 3.", "b", impl.EdTaken},
		{"f() -> 1.", "f/0", one, "a", impl.EdShape},
		{"f() -> 1.", "f/0", one, "q", impl.EdNone},
		{"f() -> f().", "f/0", one, "b", impl.EdShape},
		// A call of what is not exported.
		{"f() -> h(). h() -> 2.", "f/0", one, "b", impl.EdShape},
		{"f() -> h(). h() -> 2.", "f/0", full, "b", impl.EdShape},
		{"f() -> h(). h() -> 2.", "f/0", one + "f() -> 3.", "b", impl.EdTaken},
		{"f() -> h(). h() -> 2.", "f/0", one, "a", impl.EdShape},
		{"f() -> h(). h() -> 2.", "h/0", one, "b", impl.EdOk},
		{"f() -> h(). h() -> 2.", "h/0", full, "b", impl.EdFull},
		{"f() -> {h(), put(1)}. h() -> 2.", "f/0", one, "b", impl.EdShape},
		{"f() -> put(1), {h()}. h() -> 2.", "f/0", one, "b", impl.EdShape},
		{"f() -> put(1), {h()}. h() -> 2.", "h/0", one, "b", impl.EdOk},
		{"f() -> {1, h(1), h()}. h() -> 2. h(X) -> X.", "h/0", one, "b", impl.EdShape},
		{"f() -> {1, h(1), h()}. h() -> 2. h(X) -> X.", "h/1", one, "b", impl.EdShape},
		{"f() -> {1, h(1), h()}. h() -> 2. h(X) -> X.", "h/0, h/1", one, "b", impl.EdOk},
		{"f() -> case 1 of 1 -> f(); _ -> [h() | f(h())] end. f(X) -> X. h() -> 2.", "f/1", one, "b", impl.EdShape},
		{"f() -> case 1 of 1 -> f(); _ -> [h() | f(h())] end. f(X) -> X. h() -> 2.", "f/0, h/0", one, "b", impl.EdShape},
		{"f() -> case 1 of 1 -> f(); _ -> [h() | f(h())] end. f(X) -> X. h() -> 2.", "f/1, h/0", one, "b", impl.EdOk},
		// Itself need not be exported; what others call does not matter.
		{"f() -> f(). h() -> l(), f(). l() -> h().", "", one, "b", impl.EdOk},
		// put/1 of no module.
		{"f() -> put(1). h() -> 2.", "", one + "put(X) -> X.", "b", impl.EdShape},
		{"f() -> put(1). h() -> 2.", "", one + "put(X) -> X. " + crowd(27), "b", impl.EdShape},
		{"f() -> put(1). h() -> 2.", "", one + "put(X) -> X. f() -> 3.", "b", impl.EdTaken},
		{"f() -> put(1). h() -> 2.", "", one + "put(X) -> X.", "q", impl.EdNone},
		{"f() -> put(1). h() -> 2.", "", one + "put(X, Y) -> X. put() -> 1.", "b", impl.EdOk},
		{"f() -> put(1). h() -> 2.", "", full, "b", impl.EdFull},
		{"f() -> {h(), [case 1 of _ -> put(1) end]}. h() -> 2.", "h/0", one + "put(X) -> X.", "b", impl.EdShape},
		{"f() -> {put(1), h()}. h() -> 2.", "h/0", one + "put(X) -> X.", "b", impl.EdShape},
		{"f() -> 1. h() -> put(1).", "", one + "put(X) -> X.", "b", impl.EdOk},
	} {
		p := []impl.Module{module(t, "a", k.exports, k.home), module(t, "b", "", k.goal)}
		at := place("a", "f", 0, 0)
		if want := slowMoveCode(t, p, at, k.to); want != k.want {
			t.Fatal("the words say", want, k)
		}
		if k.want != impl.EdOk {
			checkMoveCode(t, p, at, k.to, k.want)
			// No program: that is named first, whatever else is so.
			loose := append(roomy(p), module(t, "c", "", "f() -> X."))
			checkMoveCode(t, loose, at, k.to, impl.EdBad)
		} else if got, code := impl.Move(p, at, k.to); code != impl.EdOk || wordsText(programWords(t, got)) != rewordedMove(t, p, at, k.to) {
			t.Errorf("%+v: %d %s", k, code, programTextOf(got))
		}
	}
}

// exporting is a module with so many functions, of which the last ones are exported.
func exporting(name string, funs, exports int) impl.Module {
	m := impl.Module{Name: name}
	for i := range funs {
		fun := "g" + strconv.Itoa(100+i)
		m.Funs = append(m.Funs, impl.Fun{Name: fun, Clauses: []impl.Clause{clause(nil, num(i))}})
		if i >= funs-exports {
			m.Exports = append(m.Exports, impl.Ref{Name: fun})
		}
	}
	return m
}

// 30 functions and 20 exports may be, 31 and 21 not.
func TestMoveFull(t *testing.T) {
	for _, exported := range []string{"", "f/1", "f/1, h/1"} {
		a := module(t, "a", exported, "f(X) -> f(X). h(X) -> X.")
		for _, k := range []struct{ funs, exports, want int }{
			{29, 19, impl.EdOk}, {29, 0, impl.EdOk}, {20, 19, impl.EdOk}, {19, 19, impl.EdOk}, {1, 0, impl.EdOk}, {1, 1, impl.EdOk},
			{30, 19, impl.EdFull}, {30, 0, impl.EdFull}, {30, 20, impl.EdFull}, {29, 20, impl.EdFull}, {20, 20, impl.EdFull}, {21, 20, impl.EdFull},
		} {
			p := []impl.Module{a, exporting("b", k.funs, k.exports)}
			if k.want != impl.EdOk {
				checkMoveCode(t, p, place("a", "f", 1, 0), "b", k.want)
				checkMoveCode(t, p, place("a", "h", 1, 0), "b", k.want)
				checkMoveCode(t, p, place("a", "f", 1, 0), "a", impl.EdShape)
				checkMoveCode(t, p, place("a", "f", 2, 0), "b", impl.EdNone)
				continue
			}
			got, code := impl.Move(p, place("a", "f", 1, 0), "b")
			if code != impl.EdOk || !impl.Good(got) || len(got[1].Funs) != k.funs+1 || len(got[1].Exports) != k.exports+1 || got[1].Funs[k.funs].Name != "f" {
				t.Error(k, code)
			}
		}
	}
	// A module that is full may be left, and a full one be there beside both.
	p := []impl.Module{exporting("a", 30, 20), module(t, "b", "", "f() -> 1."), exporting("c", 30, 20)}
	for _, name := range []string{"g100", "g129"} {
		got, code := impl.Move(p, place("a", name, 0, 0), "b")
		if code != impl.EdOk || !impl.Good(got) || len(got[0].Funs) != 29 || len(got[1].Funs) != 2 {
			t.Error(name, code)
		}
		checkMoveCode(t, p, place("c", name, 0, 0), "a", impl.EdTaken)
		checkMoveCode(t, got, place("b", "f", 0, 0), "c", impl.EdFull)
	}
}

// Modules that meet every limit: nothing becomes deeper, longer or wider by the way to another module.
func TestMoveAtTheLimits(t *testing.T) {
	p := []impl.Module{}
	for i := range 10 {
		p = append(p, fullModule("m"+strconv.Itoa(i)))
	}
	at := place("m0", "f10", 6, 0)
	checkFull := func(to string, want int) {
		t.Helper()
		if got, code := impl.Move(p, at, to); code != want || !sameProgram(got, p) {
			t.Error(to, code)
		}
	}
	checkFull("m9", impl.EdTaken)
	checkFull("m0", impl.EdShape)
	checkFull("m10", impl.EdNone)
	p[9] = exporting("m9", 30, 19)
	checkFull("m9", impl.EdFull)
	p[9] = exporting("m9", 29, 20)
	checkFull("m9", impl.EdFull)
	p[9] = exporting("m9", 29, 19)
	got, code := impl.Move(p, at, "m9")
	if code != impl.EdOk || !impl.Good(got) || len(got[0].Funs) != 29 || len(got[0].Exports) != 19 || len(got[9].Funs) != 30 || len(got[9].Exports) != 20 {
		t.Fatal(code)
	}
	for i, m := range got {
		for _, f := range m.Funs {
			e := f.Clauses[len(f.Clauses)-1].Body[min(7, len(f.Clauses[0].Body)-1)]
			for e.Kind == impl.ExTuple {
				e = e.Kids[0]
			}
			if e.Kind == impl.ExCall && (e.Mod != "m9" || e.Text != "f10") {
				t.Fatal(i, f.Name, e.Mod, e.Text)
			}
		}
	}
}

// moved is the same start behind Move.
func (s start) moved(at impl.Place, to string) start {
	if s.mod == at.Mod && s.name == at.Name && len(s.args) == at.Arity {
		s.mod = to
	}
	return s
}

// shopProgram answers, fails, puts something out and goes round; its modules call one another.
func shopProgram(t *testing.T) ([]impl.Module, []start) {
	main := module(t, "main", "fold/3, loop/1, run/2, step/3", "run(L, Low) -> S = fold(sum, L, 0), put({sum, S}), case S < Low of true -> {low, shop:price(L)}; false -> main:fold(rev, L, []) end. "+
		"fold(_, [], Acc) -> Acc; fold(How, [H | T], Acc) -> fold(How, T, step(How, H, Acc)). step(sum, X, Acc) -> X + Acc; step(rev, X, Acc) -> put(X), [X | Acc]; step(F, X, _) -> util:odd({F, X}). "+
		"loop(N) -> put(N), loop(N + 1). lonely(X) -> {X, util:twice(X)}.")
	shop := module(t, "shop", "price/1, tell/1", "price([]) -> tell(free); price([H | T]) -> shop:price(T) + tax(H); price(_) -> hidden(1). tax(X) -> main:step(sum, util:twice(X), 1). tell(X) -> put({tell, X}), 0. hidden(X) -> tell(X), util:odd(X).")
	util := module(t, "util", "even/1, odd/1, put/1, twice/1", "twice(X) -> put(X), X * 2. put(X) -> shop:tell({own, X}). even(0) -> yes; even(N) -> odd(N - 1). odd(0) -> no; odd(N) -> util:even(N - 1). rest(X) -> main:fold(rev, [X], []).")
	three, odd := consVal(numVal(3), consVal(numVal(5), nilVal())), consVal(numVal(3), atomVal("a"))
	return []impl.Module{main, shop, util}, []start{
		{"main", "run", []impl.Val{three, numVal(0)}}, {"main", "run", []impl.Val{three, numVal(100)}}, {"main", "run", []impl.Val{nilVal(), numVal(1)}}, {"main", "run", []impl.Val{odd, numVal(1)}}, {"main", "run", []impl.Val{three, atomVal("a")}},
		{"main", "fold", []impl.Val{atomVal("rev"), three, nilVal()}}, {"main", "fold", []impl.Val{atomVal("x"), three, nilVal()}}, {"main", "step", []impl.Val{atomVal("sum"), atomVal("a"), numVal(1)}}, {"main", "loop", []impl.Val{numVal(1)}},
		{"shop", "price", []impl.Val{three}}, {"shop", "price", []impl.Val{odd}}, {"shop", "price", []impl.Val{numVal(1)}}, {"shop", "tell", []impl.Val{numVal(1)}},
		{"util", "even", []impl.Val{numVal(5)}}, {"util", "odd", []impl.Val{numVal(5)}}, {"util", "odd", []impl.Val{atomVal("a")}}, {"util", "twice", []impl.Val{numVal(4)}}, {"util", "put", []impl.Val{numVal(4)}},
	}
}

// P10: each function in each other module, with any fuel; and so again, from there on.
func TestEachFunctionInAnotherModule(t *testing.T) {
	p, starts := shopProgram(t)
	checkRunOf(t, p, "main", "run", starts[0].args, enough, "ok [5 | [3 | []]] >{sum, 8} >3 >5")
	checkRunOf(t, p, "main", "run", starts[1].args, enough, "ok {low, 18} >{sum, 8} >{tell, free} >{tell, {own, 5}} >{tell, {own, 3}}")
	checkRunOf(t, p, "shop", "price", starts[11].args, enough, "ok yes >{tell, 1}")
	told := map[string]int{}
	eachMove := func(p []impl.Module, do func(impl.Place, string, []impl.Module)) {
		for _, m := range p {
			for _, f := range m.Funs {
				at := place(m.Name, f.Name, f.Arity, -7)
				for _, goal := range p {
					q, code := impl.Move(p, at, goal.Name)
					if want := slowMoveCode(t, p, at, goal.Name); code != want || !impl.Good(q) {
						t.Fatalf("%+v to %s is %d, not %d", at, goal.Name, code, want)
					}
					told[impl.CodeText(code)]++
					if code == impl.EdOk {
						do(at, goal.Name, q)
					}
				}
			}
		}
	}
	eachMove(p, func(at impl.Place, to string, q []impl.Module) {
		for _, s := range starts {
			low := checkSameRuns(t, p, s, q, s.moved(at, to), 600)
			told["run "+impl.CodeText(impl.Run(p, s.mod, s.name, s.args, low).Code)]++
		}
		eachMove(q, func(next impl.Place, goal string, r []impl.Module) {
			for _, s := range starts {
				checkSameRuns(t, p, s, r, s.moved(at, to).moved(next, goal), 60)
			}
		})
	})
	checkKinds(t, told, 50, "ok", "taken", "shape", "run ok", "run bad")
	checkKinds(t, told, 10, "run none")
}

// P10: of 200 calls within calls each is one, in whichever module.
func TestMoveTakesAsManyCalls(t *testing.T) {
	p := []impl.Module{module(t, "a", "f/1, g/1", "f(0) -> done; f(N) -> g(N - 1). g(0) -> put(g), done; g(N) -> f(N - 1)."), module(t, "b", "k/1", "k(N) -> a:f(N).")}
	for _, name := range []string{"f", "g"} {
		q, code := impl.Move(p, place("a", name, 1, 0), "b")
		if code != impl.EdOk {
			t.Fatal(code)
		}
		for n, want := range map[int]string{198: "ok done", 199: "ok done >g", 200: "fuel", 201: "fuel"} {
			s := start{"a", "f", []impl.Val{numVal(n)}}.moved(place("a", name, 1, 0), "b")
			checkRunOf(t, p, "a", "f", s.args, enough, want)
			checkRunOf(t, q, s.mod, "f", s.args, enough, want)
			deeper := strings.Replace(want, "ok done >g", "fuel", 1)
			checkRunOf(t, p, "b", "k", s.args, enough, deeper)
			checkRunOf(t, q, "b", "k", s.args, enough, deeper)
		}
	}
}

// P10: programs that are made, their functions in other modules and without what nobody reaches, one behind the other.
func TestMadeMovesDoTheSame(t *testing.T) {
	m := newMaker(101)
	told := map[string]int{}
	for range 900 {
		p := m.goodRunnable()
		q := p
		starts := []start{}
		for _, mod := range p {
			for _, ref := range mod.Exports {
				starts = append(starts, start{mod.Name, ref.Name, m.vals(ref.Arity, 2)})
			}
		}
		behind := slices.Clone(starts)
		for range 5 {
			if m.Intn(5) == 0 {
				told["pruned"] += min(1, len(impl.Unused(q)))
				q = impl.Prune(q)
			}
			at, to := m.placeIn(q), pickOf(m, q).Name
			made, code := impl.Move(q, at, to)
			told[impl.CodeText(code)]++
			if want := slowMoveCode(t, q, at, to); code != want || !impl.Good(made) {
				t.Fatalf("%s%+v to %s is %d, not %d", programTextOf(q), at, to, code, want)
			}
			q = made
			for i := range behind {
				if code == impl.EdOk {
					behind[i] = behind[i].moved(at, to)
				}
			}
		}
		for i, s := range starts {
			low := checkSameRuns(t, p, s, q, behind[i], 300)
			r := impl.Run(p, s.mod, s.name, s.args, low)
			told["run "+impl.CodeText(r.Code)]++
			told["out"] += min(1, len(r.Out))
			if behind[i].mod != s.mod {
				told["elsewhere"]++
			}
		}
	}
	checkKinds(t, told, 100, "ok", "taken", "shape", "pruned", "run ok", "run bad", "run none", "out", "elsewhere")
}

// What comes out against the words that a program is shown with.
func TestMoveAgainstWords(t *testing.T) {
	m := newMaker(102)
	told := map[string]int{}
	for i := range 1600 {
		p := m.goodProgram()
		if i%2 == 0 {
			p = m.goodRunnable()
		}
		if len(p) == 0 {
			continue
		}
		at, to := m.placeIn(p), pickOf(m, p).Name
		got, code := impl.Move(p, at, to)
		want := slowMoveCode(t, p, at, to)
		told[impl.CodeText(code)]++
		if want != impl.EdOk {
			checkRefused(t, to, p, got, code, want)
		} else if text := wordsText(programWords(t, got)); code != impl.EdOk || text != rewordedMove(t, p, at, to) {
			t.Fatalf("%s%+v to %s is (%d)\n%s", programTextOf(p), at, to, code, text)
		}
		if t.Failed() {
			return
		}
	}
	checkKinds(t, told, 150, "ok", "taken", "shape")
}

// P10: who calls whom is the same, by the new name; what was reached is, and the function, and what it calls.
func TestMoveKeepsTheGraph(t *testing.T) {
	m := newMaker(103)
	made, more := 0, 0
	for range 1500 {
		p := m.goodProgram()
		if len(p) == 0 {
			continue
		}
		at, to := m.placeIn(p), pickOf(m, p).Name
		got, code := impl.Move(p, at, to)
		if code != impl.EdOk {
			continue
		}
		made++
		old, fresh := target{at.Mod, at.Name, at.Arity}.text(), target{to, at.Name, at.Arity}.text()
		named := func(name string) string {
			if name == old {
				return fresh
			}
			return name
		}
		edges := [][2]string{}
		for _, edge := range impl.Graph(p) {
			edges = append(edges, [2]string{named(edge[0]), named(edge[1])})
		}
		slices.SortFunc(edges, func(a, b [2]string) int { return slices.Compare(a[:], b[:]) })
		checkGood(t, got, graphText(edges), strings.Join(slowReached(got, edges), " "))
		after := impl.Reached(got)
		for _, name := range impl.Reached(p) {
			if !slices.Contains(after, named(name)) {
				t.Fatalf("%s is not reached any more in\n%s", name, programTextOf(got))
			}
		}
		more += min(1, len(after)-len(impl.Reached(p)))
	}
	if made < 200 || more < 50 {
		t.Error("too few", made, more)
	}
}

// slowMoveCode goes through what the document says of each code, in its order; calls are told by words.
func slowMoveCode(t *testing.T, p []impl.Module, at impl.Place, to string) int {
	t.Helper()
	if !impl.Good(p) {
		return impl.EdBad
	}
	named := func(name string) impl.Module {
		if i := slices.IndexFunc(p, func(m impl.Module) bool { return m.Name == name }); i >= 0 {
			return p[i]
		}
		return impl.Module{}
	}
	home, goal, own := named(at.Mod), named(to), target{"", at.Name, at.Arity}
	switch {
	case !isThere(home, own) || goal.Name != to || len(goal.Funs) == 0:
		return impl.EdNone
	case own == target{"", "put", 1} || to != at.Mod && isThere(goal, own):
		return impl.EdTaken
	case to == at.Mod || len(home.Funs) == 1:
		return impl.EdShape
	}
	f := home.Funs[slices.IndexFunc(home.Funs, func(f impl.Fun) bool { return f.Name == at.Name && f.Arity == at.Arity })]
	for _, called := range callsOf(t, f) {
		if called.mod != "" || called == own {
			continue
		}
		exported := slices.Contains(home.Exports, impl.Ref{Name: called.name, Arity: called.arity})
		if isThere(home, called) && !exported || !isThere(home, called) && isThere(goal, called) {
			return impl.EdShape
		}
	}
	if len(goal.Funs) >= 30 || len(goal.Exports) >= 20 {
		return impl.EdFull
	}
	return impl.EdOk
}

// Any programs, places and names have an answer, and the same one each time.
func TestAnyMove(t *testing.T) {
	m := newMaker(104)
	told := map[string]int{}
	for i := range 2500 {
		p := m.anyProgram(i)
		if i%5 == 2 {
			p = m.goodRunnable()
		}
		at, to := m.oddPlace(p), pickOf(m, oddNames)
		if len(p) > 0 && m.Intn(5) > 0 {
			to = pickOf(m, p).Name
		}
		got, code := impl.Move(p, at, to)
		told[impl.CodeText(code)]++
		if want := slowMoveCode(t, p, at, to); want != impl.EdOk || code != impl.EdOk {
			checkRefused(t, plain(at)+to, p, got, code, want)
		} else if !impl.Good(got) {
			t.Errorf("%sis not good", programTextOf(got))
		}
		if again, same := impl.Move(p, at, to); same != code || !sameProgram(got, again) {
			t.Errorf("another answer: %+v %s %s", at, to, programTextOf(p))
		}
	}
	checkKinds(t, told, 100, "ok", "bad", "none", "taken", "shape")
}

// Programs that are none, each wrong in one way.
func TestMoveOfNoProgram(t *testing.T) {
	good := []impl.Module{module(t, "a", "f/1", "f(X) -> X."), module(t, "m", "f/1", "f(X) -> a:f(X). g(X) -> f(X)."), module(t, "z", "f/1", "f(X) -> X.")}
	if _, code := impl.Move(good, place("m", "g", 1, 0), "a"); code != impl.EdOk {
		t.Fatal(code)
	}
	for at := range good {
		for what, spoil := range spoilings() {
			p := roomy(good)
			spoil(&p[at])
			checkUntouched(t, p, func(p []impl.Module) {
				got, code := impl.Move(p, place("m", "g", 1, 0), "a")
				checkBad(t, what, p, got, code)
				checkBad(t, what, p, impl.Prune(p), impl.EdBad)
				checkUnused(t, p, "")
				checkWhere(t, p, "f", 1, slowWhere(p, "f", 1))
			})
		}
	}
	p := []impl.Module{endless("m"), endless("z")}
	got, code := impl.Move(p, place("m", "f", 0, 0), "z")
	checkHoldsItself(t, p, got, code)
	checkHoldsItself(t, p, impl.Prune(p), impl.EdBad)
	checkUnused(t, p, "")
	checkWhere(t, p, "f", 0, "m z")
}

// What is answered shares no memory with the arguments, no two lists of it share any, and nothing is written into the arguments.
func TestMoveMemory(t *testing.T) {
	m := newMaker(105)
	told := map[int]int{}
	for i := range 300 {
		p := m.goodRunnable()
		if i%5 == 0 {
			p = []impl.Module{m.oddModule()}
		}
		at, to := m.oddPlace(p), pickOf(m, p).Name
		if i%5 > 1 {
			at = m.placeIn(p)
		}
		checkUntouched(t, p, func(p []impl.Module) {
			got, code := impl.Move(p, at, to)
			told[code]++
			pruned := impl.Prune(p)
			checkApart(t, [][]impl.Module{got, pruned}, p)
			spoilProgram(got)
			spoilProgram(pruned)
			for _, list := range [][]string{impl.Unused(p), impl.Where(p, at.Name, at.Arity)} {
				checkApart(t, list, p)
				clear(list)
			}
		})
	}
	if told[impl.EdOk] < 25 || told[impl.EdShape] < 20 || told[impl.EdBad] < 20 {
		t.Error("too few", told)
	}
}

// A program may hold one list in many places; what is made of it does not.
func TestMoveOfSharedLists(t *testing.T) {
	kids := []impl.Exp{variable("X")}
	body := []impl.Exp{{Kind: impl.ExCall, Text: "f", Kids: kids}, {Kind: impl.ExCall, Mod: "a", Text: "f", Kids: kids}, {Kind: impl.ExTuple, Kids: kids}}
	c := impl.Clause{Pats: kids, Body: body}
	f, g := impl.Fun{Name: "f", Arity: 1, Clauses: []impl.Clause{c, c}}, impl.Fun{Name: "g", Arity: 1, Clauses: []impl.Clause{c}}
	exports := []impl.Ref{{Name: "f", Arity: 1}, {Name: "g", Arity: 1}}
	far := module(t, "b", "", "k() -> 1.")
	p := []impl.Module{{Name: "a", Exports: exports, Funs: []impl.Fun{f, g}}, far, {Name: "c", Exports: exports, Funs: []impl.Fun{g, f}}}
	const kept = "g(X) -> f(X), a:f(X), {X}. f(X) -> f(X), a:f(X), {X}; f(X) -> f(X), a:f(X), {X}."
	checkUntouched(t, p, func([]impl.Module) {
		got, code := impl.Move(p, place("a", "f", 1, 0), "b")
		checkMade(t, p, got, code, []impl.Module{
			module(t, "a", "g/1", "g(X) -> b:f(X), b:f(X), {X}."),
			module(t, "b", "f/1", "k() -> 1. f(X) -> f(X), b:f(X), {X}; f(X) -> f(X), b:f(X), {X}."),
			module(t, "c", "f/1, g/1", strings.ReplaceAll(kept, "a:f", "b:f")),
		})
		spoilProgram(got)
		got, code = impl.Move(p, place("a", "g", 1, 0), "b")
		checkMade(t, p, got, code, []impl.Module{
			module(t, "a", "f/1", "f(X) -> f(X), a:f(X), {X}; f(X) -> f(X), a:f(X), {X}."),
			module(t, "b", "g/1", "k() -> 1. g(X) -> a:f(X), a:f(X), {X}."),
			module(t, "c", "f/1, g/1", kept),
		})
		spoilProgram(got)
		pruned := impl.Prune(p)
		checkApart(t, pruned, p)
		spoilProgram(pruned)
	})
	if impl.Show(p[2]) != impl.Show(module(t, "c", "f/1, g/1", kept)) {
		t.Error("written into", impl.Show(p[2]))
	}
}

// Nothing is kept: changes beside one another do not see each other.
func TestMovesApart(t *testing.T) {
	p, _ := shopProgram(t)
	funs := []impl.Place{}
	for at := range clausesOf(p) {
		funs = append(funs, at)
	}
	told := checkAlongside(t, 3*len(funs), func(i int) string {
		at, to := funs[i/3], p[i%3].Name
		got, code := impl.Move(p, at, to)
		return impl.CodeText(code) + " " + programTextOf(got) + strings.Join(impl.Unused(got), " ") + programTextOf(impl.Prune(got)) + strings.Join(impl.Where(got, at.Name, at.Arity), " ")
	})
	if !slices.ContainsFunc(told, func(text string) bool { return strings.HasPrefix(text, "ok ") }) {
		t.Error("changes", told)
	}
}

func checkUnused(t *testing.T, p []impl.Module, want string) {
	t.Helper()
	if got := strings.Join(impl.Unused(p), " "); got != want {
		t.Errorf("%snot used are %s, not %s", programTextOf(p), got, want)
	}
}

func checkPruned(t *testing.T, p, want []impl.Module) {
	t.Helper()
	got := impl.Prune(p)
	if !sameProgram(got, want) {
		t.Errorf("%swithout what is not reached is\n%snot\n%s", programTextOf(p), programTextOf(got), programTextOf(want))
	}
	checkApart(t, got, p)
}

func TestUnusedAndPrune(t *testing.T) {
	for _, k := range []struct{ exports, funs, unused, pruned string }{
		{"f/0", "f() -> 1.", "", "f() -> 1."},
		{"f/0, g/0", "f() -> 1. g() -> 2.", "", "f() -> 1. g() -> 2."},
		{"f/0", "f() -> g(). g() -> 1.", "", "f() -> g(). g() -> 1."},
		{"f/0", "f() -> 1. g() -> 2.", "m:g/0", "f() -> 1."},
		{"g/0", "f() -> 1. g() -> 2.", "m:f/0", "g() -> 2."},
		{"g/0", "f() -> g(). g() -> 2. h() -> f().", "m:f/0 m:h/0", "g() -> 2."},
		{"f/0", "z() -> 1. f() -> m:f(), b(). c() -> f(). b() -> d(). a() -> z(). d() -> {put(f), b()}. y() -> a().", "m:a/0 m:c/0 m:y/0 m:z/0", "f() -> m:f(), b(). b() -> d(). d() -> {put(f), b()}."},
		// Of one name what has as many parameters.
		{"f/1", "f() -> f(1). f(X) -> f(X, X). f(X, Y) -> {X, Y}. f(X, Y, Z) -> f().", "m:f/0 m:f/3", "f(X) -> f(X, X). f(X, Y) -> {X, Y}."},
		{"f/0", "f() -> {g, f}. g() -> 1.", "m:g/0", "f() -> {g, f}."},
		{"f/0", "f(X) -> g(X). f() -> g(g). g(X) -> X.", "m:f/1", "f() -> g(g). g(X) -> X."},
		// Calls in a circle, which nobody reaches or somebody does.
		{"f/0", "f() -> 1. x() -> y(). y() -> x(), f(). w() -> w().", "m:w/0 m:x/0 m:y/0", "f() -> 1."},
		{"x/0", "f() -> 1. x() -> y(). y() -> x(), f(). w() -> w().", "m:w/0", "f() -> 1. x() -> y(). y() -> x(), f()."},
		{"f/0", "x() -> y(). y() -> z(). z() -> x(). f() -> 1. w() -> x().", "m:w/0 m:x/0 m:y/0 m:z/0", "f() -> 1."},
		// None is left: the first one stays, if it may.
		{"", "f() -> 1.", "m:f/0", "f() -> 1."},
		{"", "g() -> 2. f() -> 1.", "m:f/0 m:g/0", "g() -> 2."},
		{"", "f() -> f(), put(1). g() -> f().", "m:f/0 m:g/0", "f() -> f(), put(1)."},
		{"", "f() -> g(). g() -> 1. h() -> 2.", "m:f/0 m:g/0 m:h/0", "f() -> g(). g() -> 1. h() -> 2."},
		{"", "f(X) -> f(). f() -> f(1).", "m:f/0 m:f/1", "f(X) -> f(). f() -> f(1)."},
		{"", "f() -> case 1 of 1 -> 2; _ -> [g()] end. g() -> f().", "m:f/0 m:g/0", "f() -> case 1 of 1 -> 2; _ -> [g()] end. g() -> f()."},
		// put/1 is a function where the module has it; where it goes, what is left puts out.
		{"f/0", "f() -> put(1). put(X) -> g(). g() -> 1. h() -> put(2).", "m:h/0", "f() -> put(1). put(X) -> g(). g() -> 1."},
		{"f/0", "f() -> 1. put(X) -> X. g() -> put(1).", "m:g/0 m:put/1", "f() -> 1."},
		{"", "f() -> put(1). put(X) -> X.", "m:f/0 m:put/1", "f() -> put(1)."},
		{"", "put(X) -> X. f() -> put(1).", "m:f/0 m:put/1", "put(X) -> X."},
		// By text: / stands ahead of digits, these ahead of letters.
		{"e/0", "e() -> 1. ab() -> 1. aB() -> 1. a1() -> 1. a(X) -> X. a() -> 1. z() -> 1.", "m:a/0 m:a/1 m:a1/0 m:aB/0 m:ab/0 m:z/0", "e() -> 1."},
	} {
		p := alone(t, k.exports, k.funs)
		checkUnused(t, p, k.unused)
		checkPruned(t, p, alone(t, k.exports, k.pruned))
	}
}

func TestUnusedAndPruneOfSeveralModules(t *testing.T) {
	a := module(t, "a", "f/0", "u() -> f(). f() -> b:f(). g() -> a1:g().")
	a1 := module(t, "a1", "f/0, g/0", "f() -> 1. g() -> h(). h() -> k(). i() -> g(). k() -> b:f().")
	b := module(t, "b", "f/0", "g() -> a:f(). f() -> h(). h() -> a1:f(). i() -> j(). j() -> i().")
	c := module(t, "c", "", "f() -> a:f(), b:f(). g() -> f().")
	p := []impl.Module{a, a1, b, c}
	checkUnused(t, p, "a1:i/0 a:g/0 a:u/0 b:g/0 b:i/0 b:j/0 c:f/0 c:g/0")
	want := []impl.Module{module(t, "a", "f/0", "f() -> b:f()."), module(t, "a1", "f/0, g/0", "f() -> 1. g() -> h(). h() -> k(). k() -> b:f()."), module(t, "b", "f/0", "f() -> h(). h() -> a1:f()."), module(t, "c", "", "f() -> a:f(), b:f().")}
	checkPruned(t, p, want)
	checkPruned(t, want, want)
	checkUnused(t, want, "c:f/0")
	// Of a module of which nothing is left the first one calls another of it: all stays, in each module.
	astray := append(roomy(p), module(t, "d", "", "g() -> {a:f(), h()}. h() -> 1. k() -> 2."))
	checkUnused(t, astray, "a1:i/0 a:g/0 a:u/0 b:g/0 b:i/0 b:j/0 c:f/0 c:g/0 d:g/0 d:h/0 d:k/0")
	checkPruned(t, astray, astray)
	astray[4].Funs[0], astray[4].Funs[1] = astray[4].Funs[1], astray[4].Funs[0]
	checkPruned(t, astray, append(slices.Clone(want), module(t, "d", "", "h() -> 1.")))
	// One that is exported and that nobody calls is reached.
	checkUnused(t, p[1:2], "")
	for _, none := range [][]impl.Module{nil, {}} {
		checkUnused(t, none, "")
		checkPruned(t, none, nil)
	}
}

// What is not good has no answer but itself.
func TestUnusedAndPruneOfBadPrograms(t *testing.T) {
	good, bad := cutCodes(t)
	checkUnused(t, good, "m:h/1")
	checkPruned(t, good, []impl.Module{good[0], module(t, "m", "f/2, g/0", "f(X, Y) -> Z = X, g(), {Z, Y}; f(_, 1) -> 1; f(_, _) -> 1, 2. g() -> 1.")})
	for _, p := range bad {
		checkUnused(t, p, "")
		checkPruned(t, p, p)
	}
	for _, funs := range []string{"f() -> 1. g() -> X.", "f() -> 1. g() -> h().", "f() -> 1. g() -> m:g().", "f() -> 1. g() -> z:f()."} {
		p := alone(t, "f/0", funs)
		checkUnused(t, p, "")
		checkPruned(t, p, p)
	}
	p := alone(t, "f/0, h/0", "f() -> 1. g() -> 2.")
	checkUnused(t, p, "")
	checkPruned(t, p, p)
	eleven := append(chain(10, 2, false), module(t, "z", "", "f() -> 1. g() -> 2."))
	checkUnused(t, eleven, "")
	checkPruned(t, eleven, eleven)
}

// Programs that are as large as may be.
func TestPruneAtTheLimits(t *testing.T) {
	for _, down := range []bool{false, true} {
		p := chain(10, 30, down)
		checkUnused(t, p, "")
		checkPruned(t, p, p)
		// Without an export at the end where the calls begin nothing of that module is reached.
		end := 0
		if down {
			end = 9
		}
		p[end].Exports = nil
		if got := impl.Unused(p); len(got) != 30 || got[0] != p[end].Name+":f10/0" || got[29] != p[end].Name+":f39/0" {
			t.Error(down, got)
		}
		if !down {
			// The first function calls the second one.
			checkPruned(t, p, p)
			p[end].Funs[0].Clauses[0].Body = only(num(1))
		}
		want := roomy(p)
		want[end].Funs = want[end].Funs[:1]
		checkPruned(t, p, want)
	}
	p := []impl.Module{fullModule("m0"), fullModule("m9")}
	if got := impl.Unused(p); len(got) != 20 || got[0] != "m0:f0/6" || got[19] != "m9:f9/6" {
		t.Error(got)
	}
	if got := impl.Prune(p); len(got[0].Funs) != 20 || len(got[1].Funs) != 20 || !impl.Good(got) || got[1].Funs[0].Name != "f10" {
		t.Error("pruned")
	}
}

// slowUnused are all functions but those that slowReached tells.
func slowUnused(t *testing.T, p []impl.Module) []string {
	t.Helper()
	reached, list := slowReached(p, slowGraph(t, p)), []string{}
	for _, m := range p {
		for _, f := range m.Funs {
			if name := (target{m.Name, f.Name, f.Arity}).text(); !slices.Contains(reached, name) {
				list = append(list, name)
			}
		}
	}
	return sortedOnce(list)
}

// slowPrune drops the lines that a program is shown with, but the first function's where all would go.
func slowPrune(t *testing.T, p []impl.Module) string {
	t.Helper()
	unused, made := slowUnused(t, p), [][][]impl.Token{}
	for i, lines := range programWords(t, p) {
		left := slices.DeleteFunc(slices.Clone(lines[2:]), func(line []impl.Token) bool {
			return slices.Contains(unused, target{p[i].Name, line[0].Text, kidsBehind(line, 1)}.text())
		})
		if len(left) == 0 {
			left = lines[2 : 2+len(p[i].Funs[0].Clauses)]
		}
		here := func(name string, arity int) bool {
			return slices.ContainsFunc(left, func(line []impl.Token) bool { return isLineOf(line, name, arity) })
		}
		for _, line := range left {
			for _, to := range targetsOf(line[1:]) {
				if to.mod == "" && to != (target{"", "put", 1}) && !here(to.name, to.arity) {
					return wordsText(programWords(t, p))
				}
			}
		}
		made = append(made, slices.Concat(lines[:2], left))
	}
	return wordsText(made)
}

// What is not used and what is left, against the words that a program is shown with.
func TestPruneAgainstWords(t *testing.T) {
	m := newMaker(106)
	told := map[string]int{}
	for i := range 900 {
		p := m.goodProgram()
		if i%3 == 0 {
			p = m.goodRunnable()
		}
		unused := slowUnused(t, p)
		checkUnused(t, p, strings.Join(unused, " "))
		got := impl.Prune(p)
		checkApart(t, got, p)
		if text, want := wordsText(programWords(t, got)), slowPrune(t, p); text != want {
			t.Fatalf("%swithout %v is\n%snot\n%s", programTextOf(p), unused, text, want)
		}
		switch {
		case len(unused) == 0:
			told["all used"]++
		case sameProgram(got, p):
			told["all stays"]++
		default:
			told["less"]++
		}
		if t.Failed() {
			return
		}
	}
	checkKinds(t, told, 100, "all used", "all stays", "less")
}

// P10: a program without what nobody reaches does the same, with as much fuel; and nothing else goes then.
func TestPrunedDoesTheSame(t *testing.T) {
	m := newMaker(107)
	told := map[string]int{}
	for i := range 900 {
		p := m.goodRunnable()
		if i%2 == 0 {
			p = m.goodProgram()
		}
		q := impl.Prune(p)
		if !impl.Good(q) || !slices.Equal(impl.Reached(q), impl.Reached(p)) || !sameProgram(impl.Prune(q), q) {
			t.Fatalf("%sbecomes\n%s", programTextOf(p), programTextOf(q))
		}
		if sameProgram(p, q) {
			continue
		}
		for j, mod := range p {
			if !slices.Equal(mod.Exports, q[j].Exports) {
				t.Fatal("other exports", programTextOf(q))
			}
			for _, ref := range mod.Exports {
				s := start{mod.Name, ref.Name, m.vals(ref.Arity, 2)}
				low := checkSameRuns(t, p, s, q, s, 300)
				told["run "+impl.CodeText(impl.Run(p, s.mod, s.name, s.args, low).Code)]++
			}
		}
	}
	checkKinds(t, told, 100, "run ok", "run bad", "run none")
	p, starts := shopProgram(t)
	checkUnused(t, p, "main:lonely/1 util:rest/1")
	q := impl.Prune(p)
	checkUnused(t, q, "")
	for _, s := range starts {
		checkSameRuns(t, p, s, q, s, 600)
	}
}

func checkWhere(t *testing.T, p []impl.Module, name string, arity int, want string) {
	t.Helper()
	if got := strings.Join(impl.Where(p, name, arity), " "); got != want {
		t.Errorf("%s/%d is in %q, not in %q, of %d modules", name, arity, got, want, len(p))
	}
}

func TestWhere(t *testing.T) {
	p := []impl.Module{
		module(t, "a", "f/0, g/1", "f() -> g(1). g(X) -> b:f(X, 1)."),
		module(t, "a1", "", "h() -> 1. f() -> h(). f(X) -> X."),
		module(t, "aB", "g/1", "g(X) -> h. h() -> a:g(f)."),
		module(t, "b", "f/2", "f(X, Y) -> {X, Y}. h() -> 1. g() -> gone(X). put(X) -> X."),
	}
	for _, k := range []struct {
		name  string
		arity int
		want  string
	}{
		// In none, one, some and all of them; exported or not, wherever it stands.
		{"f", 0, "a a1"}, {"f", 1, "a1"}, {"f", 2, "b"}, {"f", 3, ""}, {"g", 1, "a aB"}, {"g", 0, "b"}, {"h", 0, "a1 aB b"}, {"h", 1, ""}, {"put", 1, "b"}, {"put", 0, ""},
		// What is called, but is not there, and what is no function's name.
		{"gone", 1, ""}, {"gone", 0, ""}, {"a", 0, ""}, {"", 0, ""}, {"F", 0, ""}, {"f ", 0, ""}, {"f/0", 0, ""}, {"a:f", 0, ""}, {"f\x00", 0, ""}, {"\xff", 0, ""}, {"ff", 0, ""}, {strings.Repeat("f", 5000), 0, ""},
		{"f", -1, ""}, {"f", 7, ""}, {"f", 256, ""}, {"f", 1 << 32, ""}, {"f", 1<<32 + 1, ""}, {"f", math.MaxInt, ""}, {"f", math.MinInt, ""},
	} {
		checkWhere(t, p, k.name, k.arity, k.want)
		checkWhere(t, nil, k.name, k.arity, "")
		checkWhere(t, []impl.Module{}, k.name, k.arity, "")
	}
	all := chain(10, 30, false)
	checkWhere(t, all, "f10", 0, "m0 m1 m2 m3 m4 m5 m6 m7 m8 m9")
	checkWhere(t, all, "f39", 0, "m0 m1 m2 m3 m4 m5 m6 m7 m8 m9")
	checkWhere(t, all, "f40", 0, "")
	// Spare room behind the modules, and behind their functions, is none of them.
	checkWhere(t, p[:1], "f", 1, "")
	short := roomy(p)
	short[1].Funs = short[1].Funs[:2]
	checkWhere(t, short, "f", 1, "")
	checkWhere(t, short, "spare", -77, "")
}

// The document asks for no program here: any modules are looked into, and told ascending, none twice.
func TestWhereOfAnyModules(t *testing.T) {
	named := func(name string, arity int) []impl.Fun { return []impl.Fun{{Name: "g"}, {Name: name, Arity: arity}} }
	p := []impl.Module{
		{Name: "z", Funs: named("f", 1)}, {Name: "a", Funs: named("f", 1)}, {Name: "m", Funs: named("f", 2)}, {Name: "z", Funs: named("f", 1)}, {Name: "", Funs: named("f", 1)},
		{Name: "A\xff", Funs: named("f", 1)}, {}, {Name: "a", Funs: named("", -1)}, {Name: "\x00", Funs: named("\xff", math.MinInt)}, {Name: "a", Exports: []impl.Ref{{Name: "h", Arity: 1}}}, {Name: "y", Funs: slices.Repeat(named("f", 1), 50)},
	}
	checkWhere(t, p, "f", 1, " A\xff a y z")
	checkWhere(t, p, "f", 2, "m")
	checkWhere(t, p, "g", 0, " \x00 A\xff a m y z")
	checkWhere(t, p, "h", 1, "")
	checkWhere(t, p, "", -1, "a")
	checkWhere(t, p, "\xff", math.MinInt, "\x00")
	if got := impl.Where(p[4:5], "f", 1); len(got) != 1 || got[0] != "" {
		t.Errorf("the module without a name: %q", got)
	}
	m := newMaker(108)
	found := 0
	for i := range 2000 {
		p := m.shuffled(append(m.anyProgram(i), m.anyProgram(i+1)...))
		name, arity := pickOf(m, programFuns), m.Intn(3)
		if m.Intn(6) == 0 {
			name, arity = pickOf(m, oddNames), pickOf(m, oddNumbers)
		}
		checkWhere(t, p, name, arity, slowWhere(p, name, arity))
		list := impl.Where(p, name, arity)
		checkAscending(t, list)
		found += min(1, len(list))
	}
	if found < 500 {
		t.Error("too few", found)
	}
}

func slowWhere(p []impl.Module, name string, arity int) string {
	list := []string{}
	for _, m := range p {
		if isThere(m, target{"", name, arity}) {
			list = append(list, m.Name)
		}
	}
	return strings.Join(sortedOnce(list), " ")
}

// However many modules there are, each is looked into, and the answer is the same each time.
func TestWhereOfManyModules(t *testing.T) {
	p, want := []impl.Module{}, []string{}
	for i := range 20000 {
		m := impl.Module{Name: "m" + strconv.Itoa(i), Funs: []impl.Fun{{Name: "f", Arity: i % 3}, {Name: "g"}}}
		p = append(p, m)
		if i%3 == 2 {
			want = append(want, m.Name)
		}
	}
	slices.Sort(want)
	slices.Reverse(p)
	for range 5 {
		if got := impl.Where(p, "f", 2); !slices.Equal(got, want) {
			t.Fatal("another answer", len(got), len(want))
		}
	}
	if got := impl.Where(p, "g", 0); len(got) != 20000 {
		t.Error(len(got))
	}
}
