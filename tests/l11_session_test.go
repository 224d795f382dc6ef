package tests

import (
	"math"
	"slices"
	"strconv"
	"strings"
	"testing"

	"loop.example/g00377/impl"
)

var (
	undo = impl.Command{Kind: impl.CmUndo}
	redo = impl.Command{Kind: impl.CmRedo}
)

func TestSessionConstants(t *testing.T) {
	kinds := []int{impl.CmRenameVar, impl.CmRenameFun, impl.CmExtract, impl.CmInline, impl.CmMove, impl.CmPrune, impl.CmUndo, impl.CmRedo}
	if !slices.Equal(kinds, []int{0, 1, 2, 3, 4, 5, 6, 7}) || impl.MaxPast != 20 {
		t.Error(kinds, impl.MaxPast)
	}
}

func checkOk(t *testing.T, what string, s impl.Session, want bool) {
	t.Helper()
	if got := impl.SessionOk(s); got != want {
		t.Errorf("%s: SessionOk is %v of %s", what, got, sessionText(s))
	}
}

// badPrograms are some that are not Good, each for another reason.
func badPrograms(t *testing.T) [][]impl.Module {
	t.Helper()
	good, bad := cutCodes(t)
	for _, spoil := range spoilings() {
		p := roomy(good)
		p[0].Exports = []impl.Ref{{Name: "f", Arity: 1}}
		spoil(&p[0])
		bad = append(bad, p)
	}
	return append(bad, chain(11, 1, true), alone(t, "f/0, g/0", "f() -> 1."), alone(t, "f/0", "f() -> X."), alone(t, "f/0", "f() -> m:g(). g() -> 1."))
}

func TestOpen(t *testing.T) {
	shop, _ := shopProgram(t)
	good, _ := cutCodes(t)
	m := newMaker(111)
	goods := [][]impl.Module{nil, {}, good, shop, alone(t, "f/0", "f() -> 1."), alone(t, "", "f() -> 1."), {fullModule("m0")}, chain(10, 2, true)}
	for range 60 {
		goods = append(goods, m.goodProgram())
	}
	for _, p := range goods {
		s, _ := begun(t, p)
		checkApart(t, s, p)
		checkOk(t, "opened", s, true)
	}
	bad := append(badPrograms(t), []impl.Module{endless("m")}, []impl.Module{good[0], endless("m")}, []impl.Module{shop[2], shop[1], shop[0]})
	for i, p := range bad {
		if s, ok := impl.Open(p); ok || plain(s) != plain(impl.Session{}) {
			t.Error("opened", i, plain(s))
		}
	}
}

// Each kind by hand, one behind the other, back to the first program and on to the last one; then a change behind what
// was taken back.
func TestSession(t *testing.T) {
	const g, h = " g(P) -> put(P), P. h() -> 1.", " part(X) -> N = X + 1, Z = {N, X}, Z."
	b, renamed := module(t, "b", "k/1", "k(X) -> a:f(X)."), module(t, "b", "k/1", "k(X) -> a:go(X).")
	programs := [][]impl.Module{
		{module(t, "a", "f/1", "f(X) -> Y = X + 1, Z = {Y, X}, g(Z)."+g), b},
		{module(t, "a", "f/1", "f(X) -> N = X + 1, Z = {N, X}, g(Z)."+g), b},
		{module(t, "a", "f/1", "f(X) -> Z = part(X), g(Z)."+g+h), b},
		{module(t, "a", "f/1", "f(X) -> Z = part(X), I1 = Z, put(I1), I1."+g+h), b},
		{module(t, "a", "go/1", "go(X) -> Z = part(X), I1 = Z, put(I1), I1."+g+h), renamed},
		{module(t, "a", "go/1", "go(X) -> Z = part(X), I1 = Z, put(I1), I1."+h), renamed},
		{module(t, "a", "go/1", "go(X) -> Z = b:part(X), I1 = Z, put(I1), I1."), module(t, "b", "k/1, part/1", "k(X) -> a:go(X)."+h)},
	}
	commands := asCommands(t, "var a:f/1 Y N", "cut a:f/1 0 2 part", "into a:f/1 1", "fun a:f/1 go", "prune", "move a:part/1 b")
	s, _ := begun(t, programs[0])
	does := func(c impl.Command, code int, h history) {
		t.Helper()
		made, got := impl.Do(s, c)
		if got != code || !sameSession(made, h.session()) {
			t.Fatalf("%+v is (%d) %s\nnot (%d) %s", c, got, sessionText(made), code, sessionText(h.session()))
		}
		checkOk(t, plain(c), made, true)
		checkApart(t, made, s)
		s = made
	}
	for i, c := range commands {
		does(c, impl.EdOk, history{programs[:i+2], commands[:i+1], i + 1})
	}
	at := func(n int) history { return history{programs, commands, n} }
	does(redo, impl.EdNone, at(6))
	for n := 5; n >= 0; n-- {
		does(undo, impl.EdOk, at(n))
	}
	does(undo, impl.EdNone, at(0))
	for n := 1; n <= 6; n++ {
		does(redo, impl.EdOk, at(n))
	}
	does(redo, impl.EdNone, at(6))
	for i, c := range []impl.Command{undo, undo, undo, redo, redo, undo} {
		does(c, impl.EdOk, at([]int{5, 4, 3, 4, 5, 4}[i]))
	}
	// What is refused leaves what was taken back as it is.
	does(asCommand(t, "move a:part/1 c"), impl.EdNone, at(4))
	does(asCommand(t, "move a:h/0 a"), impl.EdShape, at(4))
	does(asCommand(t, "fun a:h/0 H"), impl.EdName, at(4))
	does(impl.Command{Kind: 8}, impl.EdNone, at(4))
	// Behind a change what was taken back is gone, and what is ahead of it is not.
	c := asCommand(t, "fun a:h/0 one")
	changed := []impl.Module{module(t, "a", "go/1", "go(X) -> Z = part(X), I1 = Z, put(I1), I1. g(P) -> put(P), P. one() -> 1."+h), renamed}
	programs, commands = append(programs[:5:5], changed), append(commands[:4:4], c)
	does(c, impl.EdOk, at(5))
	does(redo, impl.EdNone, at(5))
	for n := 4; n >= 0; n-- {
		does(undo, impl.EdOk, at(n))
	}
	does(undo, impl.EdNone, at(0))
	for n := 1; n <= 5; n++ {
		does(redo, impl.EdOk, at(n))
	}
}

func checkChange(t *testing.T, p []impl.Module, c impl.Command, want int) {
	t.Helper()
	got, code := impl.Change(p, c)
	if want != impl.EdOk {
		checkRefused(t, plain(c), p, got, code, want)
		return
	}
	made, _ := slowChange(p, c)
	checkMade(t, p, got, code, made)
	if sameProgram(got, p) {
		t.Errorf("%+v changes nothing", c)
	}
}

// Each kind with each code that it answers.
func TestChangeCodes(t *testing.T) {
	good, bad := cutCodes(t)
	good[1].Funs = append(good[1].Funs, module(t, "m", "", "wide(A) -> {B, C, D, E, F, G} = A, {A, B, C, D, E, F, G}, 1. one(A) -> put(A), h(A). put2(A) -> put(A).").Funs...)
	full := []impl.Module{module(t, "a", "", "k() -> m:f(1)."), exporting("b", 30, 20), crowdedAs(t, "m")}
	for _, k := range []struct {
		command string
		want    int
	}{
		{"var m:f/2 Z New", impl.EdOk}, {"var m:f/2 Q New", impl.EdNone}, {"var m:f/2.3 X New", impl.EdNone}, {"var m:f/2 Z new", impl.EdName}, {"var m:f/2 Z X", impl.EdTaken}, {"var m:f/2 Z Z", impl.EdTaken},
		{"fun m:f/2 new", impl.EdOk}, {"fun m:f/2.9 new", impl.EdOk}, {"fun m:f/1 new", impl.EdNone}, {"fun m:f/2 New", impl.EdName}, {"fun m:h/1 put", impl.EdTaken}, {"fun m:h/1 one", impl.EdTaken},
		{"cut m:f/2 0 2 part", impl.EdOk}, {"cut m:f/2.1 0 2 part", impl.EdNone}, {"cut m:f/2 0 4 part", impl.EdNone}, {"cut m:f/2 0 2 Part", impl.EdName}, {"cut m:wide/1 1 1 part", impl.EdShape}, {"cut m:one/1 0 1 h", impl.EdTaken},
		{"into m:one/1 1", impl.EdOk}, {"into m:one/1 2", impl.EdNone}, {"into m:one/2 0", impl.EdNone}, {"into m:one/1 0", impl.EdShape}, {"into a:f/1 0", impl.EdShape},
		{"move m:h/1 a", impl.EdOk}, {"move m:h/1.7 a", impl.EdOk}, {"move m:h/1 b", impl.EdNone}, {"move m:k/1 a", impl.EdNone}, {"move m:h/1 m", impl.EdShape}, {"move a:f/1 m", impl.EdShape}, {"move m:one/1 a", impl.EdShape},
		{"prune", impl.EdOk},
	} {
		c := asCommand(t, k.command)
		checkChange(t, good, c, k.want)
		for _, p := range bad {
			checkChange(t, p, c, impl.EdBad)
		}
		checkChange(t, nil, c, map[bool]int{true: impl.EdShape, false: impl.EdNone}[c.Kind == impl.CmPrune])
	}
	checkChange(t, full, asCommand(t, "cut m:f/1 0 1 part"), impl.EdFull)
	checkChange(t, full, asCommand(t, "into m:f/1 0"), impl.EdFull)
	checkChange(t, full, asCommand(t, "move m:h/1 b"), impl.EdFull)
	checkChange(t, append(roomy(good), module(t, "z", "f/2", "f(X, Y) -> X.")), asCommand(t, "move m:f/2 z"), impl.EdTaken)
}

// crowdedAs is a module of 30 functions, of which the first one has a body of 20 EXPs and calls the next one, of 2.
func crowdedAs(t *testing.T, name string) impl.Module {
	t.Helper()
	return module(t, name, "f/1", "f(X) -> h(X)"+strings.Repeat(", 1", 19)+". h(X) -> put(X), X. "+crowd(28))
}

// Nothing is done by another kind: p and EdNone, whatever p is.
func TestChangeOfOtherKinds(t *testing.T) {
	shop, _ := shopProgram(t)
	c := impl.Command{At: place("main", "run", 2, 0), Count: 1, Old: "S", New: "sum"}
	for _, kind := range []int{impl.CmUndo, impl.CmRedo, 8, 9, -1, -2, 255, 256, 1 << 32, 1<<32 + 5, math.MaxInt, math.MinInt} {
		c.Kind = kind
		for _, p := range append(badPrograms(t), nil, shop, shop[:1]) {
			got, code := impl.Change(p, c)
			if code != impl.EdNone || !sameProgram(got, p) {
				t.Error(kind, code)
			}
		}
	}
}

// Prune is refused where nothing goes, also where not all is reached.
func TestChangeByPrune(t *testing.T) {
	for _, k := range []struct {
		exports, funs, pruned string
	}{
		{"f/0", "f() -> 1.", ""},
		{"f/0, g/0", "f() -> 1. g() -> f().", ""},
		{"f/0", "f() -> g(). g() -> 1.", ""},
		{"f/0", "f() -> 1. g() -> 1.", "f() -> 1."},
		{"g/0", "f() -> 1. g() -> 1.", "g() -> 1."},
		// None is left: the first one stays.
		{"", "f() -> 1.", ""},
		{"", "f() -> 1. g() -> f().", "f() -> 1."},
		// It calls what would go: all stay.
		{"", "f() -> g(). g() -> 1.", ""},
		{"", "f() -> g(). g() -> 1. h() -> 1.", ""},
	} {
		p, c := alone(t, k.exports, k.funs), impl.Command{Kind: impl.CmPrune, At: place("m", "f", 0, 0), New: "new"}
		got, code := impl.Change(p, c)
		if k.pruned == "" {
			checkRefused(t, k.funs, p, got, code, impl.EdShape)
			continue
		}
		checkMade(t, p, got, code, alone(t, k.exports, k.pruned))
	}
	a, b := module(t, "a", "f/0", "f() -> 1. g() -> 2."), module(t, "b", "", "k() -> l(). l() -> a:f().")
	checkChange(t, []impl.Module{a, b}, asCommand(t, "prune"), impl.EdShape)
	checkChange(t, []impl.Module{a}, asCommand(t, "prune"), impl.EdOk)
	checkChange(t, nil, asCommand(t, "prune"), impl.EdShape)
	checkChange(t, chain(10, 30, false), asCommand(t, "prune"), impl.EdShape)
	checkChange(t, []impl.Module{fullModule("m0"), fullModule("m9")}, asCommand(t, "prune"), impl.EdOk)
	for _, p := range badPrograms(t) {
		got, code := impl.Change(p, asCommand(t, "prune"))
		checkBad(t, "prune", p, got, code)
	}
}

// Each kind takes what it wants of a command, and nothing else.
func TestChangeWantsItsOwn(t *testing.T) {
	p := []impl.Module{module(t, "a", "f/2", "f(X, Y) -> Z = g(X), Z = g(Y), {X, Y, Z}. g(A) -> h(A). h(A) -> A. u() -> 1."), module(t, "b", "k/0", "k() -> 1.")}
	for _, text := range []string{"var a:f/2 Z New", "fun a:f/2 new", "cut a:f/2 0 2 part", "cut a:f/2 1 1 part", "into a:f/2 1", "into a:f/2 0", "move a:h/1 b", "prune"} {
		c := asCommand(t, text)
		if text == "move a:h/1 b" {
			p[0].Exports = append(p[0].Exports, impl.Ref{Name: "h", Arity: 1})
		}
		want, code := impl.Change(p, c)
		if code != impl.EdOk {
			t.Fatal(text, code)
		}
		other := impl.Command{At: place("a", "g", 1, 0), From: 1, Count: 2, Old: "X", New: "g"}
		if c.Kind != impl.CmRenameVar {
			c.Old = other.Old
		}
		if c.Kind != impl.CmExtract {
			c.Count = other.Count
		}
		if c.Kind != impl.CmExtract && c.Kind != impl.CmInline {
			c.From = other.From
		}
		if c.Kind == impl.CmInline || c.Kind == impl.CmPrune {
			c.New = other.New
		}
		if c.Kind == impl.CmPrune {
			c.At = other.At
		}
		if c.Kind == impl.CmRenameFun || c.Kind == impl.CmMove {
			c.At.Clause = 17
		}
		if got, code := impl.Change(p, c); code != impl.EdOk || !sameProgram(got, want) {
			t.Errorf("%s with %+v is (%d) %s", text, c, code, programTextOf(got))
		}
	}
}

// Any programs and commands have an answer, and the same one each time.
func TestAnyChange(t *testing.T) {
	m := newMaker(112)
	told := map[string]int{}
	for i := range 3000 {
		p := m.anyProgram(i)
		if i%3 == 0 {
			p = m.goodRunnable()
		}
		c := m.oddCommand(p)
		switch {
		case i%15 == 0:
			p = m.inlinable()
			c = m.commandOf(p, impl.CmInline)
		case i%2 == 0 && impl.Good(p) && len(p) > 0:
			c = m.commandOf(p, pickOf(m, changeKinds))
		}
		want, code := slowChange(p, c)
		if code == impl.EdOk {
			told[kindNames[c.Kind]+" made"]++
		} else if c.Kind >= 0 && c.Kind <= impl.CmRedo {
			told[kindNames[c.Kind]+" refused"]++
		}
		for range 2 {
			if got, same := impl.Change(p, c); same != code || !sameProgram(got, want) {
				t.Fatalf("%sby %+v is (%d)\n%s", programTextOf(p), c, same, programTextOf(got))
			}
		}
	}
	checkKinds(t, told, 20, "var made", "fun made", "cut made", "into made", "move made", "prune made", "var refused", "fun refused", "cut refused", "into refused", "move refused", "prune refused", "undo refused", "redo refused")
}

// row is a program and so many behind it, each made of the one ahead by another name of a variable.
func rowOf(t *testing.T, count int) history {
	t.Helper()
	h := history{programs: [][]impl.Module{{module(t, "a", "f/1", "f(X) -> {X, g()}. g() -> 1.")}}}
	old := "X"
	for i := range count {
		c := asCommand(t, "var a:f/1 "+old+" N"+strconv.Itoa(i))
		made, code := impl.RenameVar(h.programs[i], c.At, c.Old, c.New)
		if code != impl.EdOk {
			t.Fatal(code)
		}
		h.programs, h.commands, old = append(h.programs, made), append(h.commands, c), c.New
	}
	return h
}

// standing is the session of a row where it stands at one of its programs.
func (h history) standing(at int) impl.Session {
	h.at = at
	return roomy(h.session())
}

// 20 programs may be ahead of Now, and 20 behind it.
func TestSessionOkLimits(t *testing.T) {
	for _, count := range []int{0, 1, 2, 19, 20, 21, 22, 39, 40, 41, 42} {
		h := rowOf(t, count)
		for at := range count + 1 {
			checkOk(t, strconv.Itoa(at)+" of "+strconv.Itoa(count), h.standing(at), at <= 20 && count-at <= 20)
		}
	}
	checkOk(t, "nothing", impl.Session{}, true)
	checkOk(t, "nothing", impl.Session{Now: []impl.Module{}, Past: [][]impl.Module{}, Done: []impl.Command{}, Next: [][]impl.Module{}, Again: []impl.Command{}}, true)
	none := asCommand(t, "prune")
	checkOk(t, "nothing twice", impl.Session{Past: make([][]impl.Module, 1), Done: []impl.Command{none}}, false)
	checkOk(t, "nothing twice", impl.Session{Next: make([][]impl.Module, 1), Again: []impl.Command{none}}, false)
	checkOk(t, "very many", impl.Session{Past: make([][]impl.Module, 100000), Done: make([]impl.Command, 100000)}, false)
	checkOk(t, "very many", impl.Session{Next: make([][]impl.Module, 100000), Again: make([]impl.Command, 100000)}, false)
	checkOk(t, "very many commands", impl.Session{Done: make([]impl.Command, 100000)}, false)
	checkOk(t, "very many programs", impl.Session{Past: make([][]impl.Module, 20), Next: make([][]impl.Module, 20)}, false)
}

// A session that is changed in one way is one still, or none any more.
func TestSessionOk(t *testing.T) {
	h := rowOf(t, 7)
	swap := func(list []impl.Command) { list[0], list[1] = list[1], list[0] }
	mixed := func(list [][]impl.Module) { list[0], list[1] = list[1], list[0] }
	other := roomy(h.programs[0])
	other[0].Funs[1].Clauses[0].Body[0].N = 2
	for what, spoil := range map[string]func(s *impl.Session){
		"Now another one":           func(s *impl.Session) { s.Now = other },
		"Now none at all":           func(s *impl.Session) { s.Now = nil },
		"Now not good":              func(s *impl.Session) { s.Now[0].Funs[1].Clauses[0].Body[0] = variable("Q") },
		"Now the one ahead":         func(s *impl.Session) { s.Now = s.Past[2] },
		"Now the one behind":        func(s *impl.Session) { s.Now = s.Next[3] },
		"the first one another":     func(s *impl.Session) { s.Past[0] = other },
		"the first one not good":    func(s *impl.Session) { s.Past[0][0].Funs[1].Clauses[0].Body[0] = variable("Q") },
		"the first one no program":  func(s *impl.Session) { s.Past[0][0].Name = "" },
		"the last one another":      func(s *impl.Session) { s.Past[2] = other },
		"the last of Past gone":     func(s *impl.Session) { s.Past = s.Past[:2] },
		"the last one and its gone": func(s *impl.Session) { s.Past, s.Done = s.Past[:2], s.Done[:2] },
		"Past gone":                 func(s *impl.Session) { s.Past = nil },
		"Done gone":                 func(s *impl.Session) { s.Done = nil },
		"the first of Done gone":    func(s *impl.Session) { s.Done = s.Done[1:] },
		"the last of Done gone":     func(s *impl.Session) { s.Done = s.Done[:2] },
		"one more of Done":          func(s *impl.Session) { s.Done = append(s.Done, s.Done[2]) },
		"one more of Past":          func(s *impl.Session) { s.Past = append(s.Past, s.Past[2]) },
		"one more of Done and Past": func(s *impl.Session) { s.Past, s.Done = append(s.Past, s.Past[2]), append(s.Done, s.Done[2]) },
		"Past in another order":     func(s *impl.Session) { mixed(s.Past) },
		"Done in another order":     func(s *impl.Session) { swap(s.Done) },
		"Next in another order":     func(s *impl.Session) { mixed(s.Next) },
		"Again in another order":    func(s *impl.Session) { swap(s.Again) },
		"Next the other way":        func(s *impl.Session) { slices.Reverse(s.Next) },
		"Again the other way":       func(s *impl.Session) { slices.Reverse(s.Again) },
		"both the other way":        func(s *impl.Session) { slices.Reverse(s.Next); slices.Reverse(s.Again) },
		"Past and Done reversed":    func(s *impl.Session) { slices.Reverse(s.Past); slices.Reverse(s.Done) },
		"Next gone":                 func(s *impl.Session) { s.Next = nil },
		"Again gone":                func(s *impl.Session) { s.Again = nil },
		"the last of Next gone":     func(s *impl.Session) { s.Next = s.Next[:3] },
		"the nearest one gone":      func(s *impl.Session) { s.Next, s.Again = s.Next[:3], s.Again[:3] },
		"one more of Again":         func(s *impl.Session) { s.Again = append(s.Again, s.Again[3]) },
		"one more of Next":          func(s *impl.Session) { s.Next = append(s.Next, s.Next[3]) },
		"the furthest one another":  func(s *impl.Session) { s.Next[0] = other },
		"the furthest one not good": func(s *impl.Session) { s.Next[0] = h.programs[0][:0] },
		"the nearest one another":   func(s *impl.Session) { s.Next[3] = other },
		"Past and Next changed":     func(s *impl.Session) { s.Past, s.Next = s.Next, s.Past; s.Done, s.Again = s.Again, s.Done },
		"one of Again in Done":      func(s *impl.Session) { s.Done, s.Again = append(s.Done, s.Again[3]), s.Again[:3] },
		"one of Done in Again":      func(s *impl.Session) { s.Again, s.Done = append(s.Again, s.Done[2]), s.Done[:2] },
		"one of Next in Past":       func(s *impl.Session) { s.Past, s.Next = append(s.Past, s.Next[3]), s.Next[:3] },
		"Now in Past, too":          func(s *impl.Session) { s.Past, s.Now, s.Next = append(s.Past, s.Now), s.Next[3], s.Next[:3] },
		"one more that can be made": func(s *impl.Session) { s.Done, s.Next, s.Again = append(s.Done, s.Again[3]), nil, nil },
		"one more to be made again": func(s *impl.Session) { s.Again = slices.Insert(s.Again, 0, asCommand(t, "fun a:g/0 new")) },
		"another name in Done":      func(s *impl.Session) { s.Done[1].New = "Other" },
		"another name in Again":     func(s *impl.Session) { s.Again[1].New = "Other" },
		"another place in Done":     func(s *impl.Session) { s.Done[0].At.Name = "g" },
		"another clause in Again":   func(s *impl.Session) { s.Again[0].At.Clause = 1 },
		"another kind in Done":      func(s *impl.Session) { s.Done[2].Kind = impl.CmPrune },
		"another kind in Again":     func(s *impl.Session) { s.Again[3].Kind = impl.CmRedo },
	} {
		s := h.standing(3)
		checkOk(t, "as it is", s, true)
		spoil(&s)
		checkOk(t, what, s, false)
	}
	for what, change := range map[string]func(s *impl.Session){
		"the first one forgotten":      func(s *impl.Session) { s.Past, s.Done = s.Past[1:], s.Done[1:] },
		"all forgotten":                func(s *impl.Session) { s.Past, s.Done = nil, nil },
		"the furthest one forgotten":   func(s *impl.Session) { s.Next, s.Again = s.Next[1:], s.Again[1:] },
		"all that was taken back gone": func(s *impl.Session) { s.Next, s.Again = nil, nil },
		"what a kind does not want":    func(s *impl.Session) { s.Done[1].From, s.Done[1].Count, s.Again[2].From = -5, math.MaxInt, 7 },
		"empty lists and nil":          func(s *impl.Session) { s.Now[0].Funs[1].Clauses[0].Pats = []impl.Exp{} },
	} {
		s := h.standing(3)
		change(&s)
		checkOk(t, what, s, true)
	}
}

// A command that is refused makes nothing, though the same program stands beside its code.
func TestSessionOkOfRefusedCommands(t *testing.T) {
	p := rowOf(t, 0).programs[0]
	for _, c := range append(asCommands(t, "var a:f/1 X x", "var a:f/1 X X", "fun a:f/2 g", "cut a:f/1 0 2 g", "into a:f/1 0", "move a:f/1 a", "undo", "redo"), impl.Command{Kind: 8}, impl.Command{Kind: -1}, impl.Command{}) {
		checkOk(t, plain(c), impl.Session{Now: p, Past: [][]impl.Module{p}, Done: []impl.Command{c}}, false)
		checkOk(t, plain(c), impl.Session{Now: p, Next: [][]impl.Module{p}, Again: []impl.Command{c}}, false)
	}
	// One that is made may come to the same program.
	p = alone(t, "f/0", "f() -> f().")
	c := asCommand(t, "into m:f/0 0")
	s := impl.Session{Now: p, Past: [][]impl.Module{p, p}, Done: []impl.Command{c, c}, Next: [][]impl.Module{p}, Again: []impl.Command{c}}
	checkOk(t, plain(c), s, true)
	s.Past[0] = alone(t, "f/0", "f() -> f(). g() -> 1.")
	checkOk(t, plain(c), s, false)
	s.Done[0] = asCommand(t, "prune")
	checkOk(t, plain(c), s, true)
}

// slowDo is Do as its chapter tells it, of any session.
func slowDo(s impl.Session, c impl.Command) (impl.Session, int) {
	past, next := len(s.Past), len(s.Next)
	made := s
	switch c.Kind {
	case impl.CmUndo:
		if past == 0 || len(s.Done) != past || next >= impl.MaxPast {
			return s, impl.EdNone
		}
		made.Past, made.Done = s.Past[:past-1], s.Done[:past-1]
		made.Next, made.Again = slices.Concat(s.Next, [][]impl.Module{s.Now}), slices.Concat(s.Again, s.Done[past-1:])
		made.Now = s.Past[past-1]
		return made, impl.EdOk
	case impl.CmRedo:
		if next == 0 || len(s.Again) != next {
			return s, impl.EdNone
		}
		made.Next, made.Again = s.Next[:next-1], s.Again[:next-1]
		made.Done = slices.Concat(s.Done, s.Again[next-1:])
		made.Now = s.Next[next-1]
	default:
		now, code := slowChange(s.Now, c)
		if code != impl.EdOk {
			return s, code
		}
		made = impl.Session{Now: now, Done: slices.Concat(s.Done, []impl.Command{c})}
	}
	made.Past = slices.Concat(s.Past, [][]impl.Module{s.Now})
	if len(made.Past) > impl.MaxPast {
		made.Past, made.Done = made.Past[1:], made.Done[1:]
	}
	return made, impl.EdOk
}

func checkSlowDo(t *testing.T, s impl.Session, c impl.Command) (impl.Session, int) {
	t.Helper()
	got, code := impl.Do(s, c)
	if made, want := slowDo(s, c); code != want || !sameSession(got, made) {
		t.Fatalf("%s\nby %+v is (%d)\n%s\nnot (%d)\n%s", sessionText(s), c, code, sessionText(got), want, sessionText(made))
	}
	checkApart(t, got, s)
	return got, code
}

// Where the first one is forgotten, by a change and by redo; and where there is no room for what is taken back.
func TestDoAtTheLimits(t *testing.T) {
	for _, count := range []int{0, 1, 19, 20, 21, 38, 39, 40, 41, 45} {
		h := rowOf(t, count)
		for at := range count + 1 {
			s := h.standing(at)
			behind := count - at
			// Nothing, what was there and one more of each list.
			got, code := checkSlowDo(t, s, undo)
			if at == 0 || behind >= 20 {
				if code != impl.EdNone || !sameSession(got, s) {
					t.Fatal("undo", at, count, code)
				}
			} else if code != impl.EdOk || !sameSession(got, h.standing(at-1)) {
				t.Fatal("undo", at, count, code)
			}
			got, code = checkSlowDo(t, s, redo)
			forgotten := min(1, (at+1)/21)
			if behind == 0 {
				if code != impl.EdNone || !sameSession(got, s) {
					t.Fatal("redo", at, count, code)
				}
			} else if rest := (history{programs: h.programs[forgotten:], commands: h.commands[forgotten:]}); code != impl.EdOk || !sameSession(got, rest.standing(at+1-forgotten)) {
				t.Fatal("redo", at, count, code)
			}
			c := asCommand(t, "fun a:g/0 new")
			got, code = checkSlowDo(t, s, c)
			rest := history{programs: slices.Clone(h.programs[forgotten : at+1]), commands: append(slices.Clone(h.commands[:at]), c)[forgotten:]}
			rest.programs = append(rest.programs, []impl.Module{module(t, "a", "f/1", strings.ReplaceAll(strings.SplitN(impl.Show(s.Now[0]), "\n", 3)[2], "g()", "new()"))})
			if code != impl.EdOk || !sameSession(got, rest.standing(at+1-forgotten)) {
				t.Fatal("change", at, count, code, sessionText(got))
			}
			got, code = checkSlowDo(t, s, asCommand(t, "fun a:g/1 new"))
			if code != impl.EdNone || !sameSession(got, s) {
				t.Fatal("refused", at, count, code)
			}
		}
	}
}

// Of a session that began with Open the last 20 programs are there, however many there were.
func TestDoForgets(t *testing.T) {
	h := rowOf(t, 70)
	s, _ := begun(t, h.programs[0])
	for i, c := range h.commands {
		var code int
		s, code = impl.Do(s, c)
		first := max(0, i+1-20)
		if want := (history{programs: h.programs[first : i+2], commands: h.commands[first : i+1]}); code != impl.EdOk || !sameSession(s, want.standing(i+1-first)) {
			t.Fatal(i, code, sessionText(s))
		}
		if i%7 == 0 || i > 65 {
			checkOk(t, plain(c), s, true)
		}
	}
	last := history{programs: h.programs[50:], commands: h.commands[50:]}
	for range 3 {
		for at := 19; at >= 0; at-- {
			s, _ = impl.Do(s, undo)
			if !sameSession(s, last.standing(at)) {
				t.Fatal("undo", at, sessionText(s))
			}
		}
		checkOk(t, "all taken back", s, true)
		if got, code := impl.Do(s, undo); code != impl.EdNone || !sameSession(got, s) {
			t.Fatal("the first one", code)
		}
		for at := 1; at <= 20; at++ {
			s, _ = impl.Do(s, redo)
			if !sameSession(s, last.standing(at)) {
				t.Fatal("redo", at, sessionText(s))
			}
		}
		checkOk(t, "all made again", s, true)
		if got, code := impl.Do(s, redo); code != impl.EdNone || !sameSession(got, s) {
			t.Fatal("the last one", code)
		}
	}
}

// Sessions whose lists are of any lengths.
func TestDoOfOddSessions(t *testing.T) {
	h := rowOf(t, 50)
	told := map[string]int{}
	for _, past := range []int{0, 1, 19, 20, 21, 24} {
		for _, done := range []int{0, past - 1, past, past + 1} {
			for _, next := range []int{0, 1, 19, 20, 21} {
				for _, again := range []int{next - 1, next, next + 1} {
					s := impl.Session{Now: h.programs[25], Past: h.programs[:past], Done: h.commands[:max(0, done)], Next: h.programs[26 : 26+next], Again: h.commands[10:max(10, 10+again)]}
					checkOk(t, "odd", s, past+max(0, done)+next+max(0, again) == 0)
					for _, c := range []impl.Command{undo, redo, asCommand(t, "fun a:g/0 new"), asCommand(t, "move a:g/0 a"), {Kind: 77}} {
						_, code := checkSlowDo(t, s, c)
						told[plain(c.Kind)+impl.CodeText(code)]++
					}
				}
			}
		}
	}
	checkKinds(t, told, 40, "6ok", "6none", "7ok", "7none", "1ok", "4shape", "77none")
	m := newMaker(113)
	clear(told)
	for i := range 800 {
		s := m.oddSession(i)
		c := m.oddCommand(s.Now)
		if i%4 == 0 {
			c.Kind = pickOf(m, []int{impl.CmUndo, impl.CmRedo})
		} else if i%2 == 0 && impl.Good(s.Now) && len(s.Now) > 0 {
			c = m.commandOf(s.Now, pickOf(m, changeKinds))
		}
		got, code := checkSlowDo(t, s, c)
		told[impl.CodeText(code)]++
		if again, same := impl.Do(s, c); same != code || !sameSession(again, got) || impl.SessionOk(s) != impl.SessionOk(s) {
			t.Fatal("another answer", sessionText(s))
		}
	}
	checkKinds(t, told, 8, "ok", "bad", "none", "name", "taken", "shape")
}

// oddSession has any programs and commands.
func (m maker) oddSession(turn int) impl.Session {
	s := impl.Session{Now: m.anyProgram(turn)}
	past := m.Intn(3)
	for range past {
		s.Past = append(s.Past, m.anyProgram(m.Intn(9)))
	}
	for range max(0, past-m.Intn(5)/4) {
		s.Done = append(s.Done, m.oddCommand(s.Now))
	}
	next := m.Intn(3)
	for range next {
		s.Next = append(s.Next, m.anyProgram(m.Intn(9)))
	}
	for range max(0, next-m.Intn(5)/4) {
		s.Again = append(s.Again, m.oddCommand(s.Now))
	}
	return s
}

func checkDoAll(t *testing.T, s impl.Session, list []impl.Command) (impl.Session, []int) {
	t.Helper()
	want, codes := s, []int{}
	for _, c := range list {
		var code int
		want, code = slowDo(want, c)
		codes = append(codes, code)
	}
	got, told := impl.DoAll(s, list)
	if !slices.Equal(told, codes) || !sameSession(got, want) {
		t.Fatalf("%s\nby %+v is %v\n%s\nnot %v\n%s", sessionText(s), list, told, sessionText(got), codes, sessionText(want))
	}
	checkApart(t, got, s, list)
	checkApart(t, told, s, list, got)
	return got, told
}

func TestDoAll(t *testing.T) {
	p := rowOf(t, 0).programs[0]
	s, _ := begun(t, p)
	got, codes := checkDoAll(t, s, asCommands(t, "fun a:g/0 h", "undo", "undo", "redo", "redo", "var a:f/1 X Y", "var a:f/1 X Z", "into a:f/1 0", "prune", "undo", "move a:h/0 b", "cut a:f/1 0 1 One", "cut a:f/1 0 1 one", "redo"))
	if texts := codeTexts(codes); texts != "ok ok none ok none ok none shape shape ok none name ok none" {
		t.Error(texts)
	}
	if text := programTextOf(got.Now); text != "-module(a).\n-export([f/1]).\nf(X) -> one(X).\nh() -> 1.\none(X) -> {X, h()}.\n" {
		t.Error(text)
	}
	checkOk(t, "all", got, true)
	checkDoAll(t, got, nil)
	checkDoAll(t, got, []impl.Command{})
	checkDoAll(t, impl.Session{}, nil)
}

func codeTexts(codes []int) string {
	list := []string{}
	for _, code := range codes {
		list = append(list, impl.CodeText(code))
	}
	return strings.Join(list, " ")
}

// 200 commands may be, 201 not: then nothing is done.
func TestDoAllLimit(t *testing.T) {
	h := rowOf(t, 260)
	for _, start := range []impl.Session{{Now: h.programs[0]}, h.standing(10), {Now: h.programs[0], Past: h.programs[5:9], Done: h.commands[:2], Next: h.programs[3:60], Again: h.commands[:4]}} {
		first := slices.IndexFunc(h.programs, func(p []impl.Module) bool { return sameProgram(p, start.Now) })
		list := h.commands[first:]
		for _, count := range []int{0, 1, 199, 200} {
			got, codes := checkDoAll(t, start, list[:count])
			if len(codes) != count || !sameProgram(got.Now, h.programs[first+count]) || slices.ContainsFunc(codes, func(code int) bool { return code != impl.EdOk }) {
				t.Fatal(count, codes)
			}
		}
		for _, many := range [][]impl.Command{list[:201], list[:202], slices.Repeat(list, 50), make([]impl.Command, 201)} {
			got, codes := impl.DoAll(start, many)
			if len(codes) != 0 || !sameSession(got, start) {
				t.Error(len(many), codes, sessionText(got))
			}
			checkApart(t, got, start)
		}
		// All of them refused, or one for and one against.
		for _, list := range [][]impl.Command{slices.Repeat([]impl.Command{undo}, 200), slices.Repeat([]impl.Command{redo}, 200), slices.Repeat([]impl.Command{undo, redo}, 100), slices.Repeat([]impl.Command{redo, redo, undo}, 66), slices.Repeat([]impl.Command{{Kind: -1}}, 200)} {
			checkDoAll(t, start, list)
		}
	}
}

func TestMaps(t *testing.T) {
	for _, k := range []struct{ command, name, want string }{
		{"fun a:f/1 h", "a:f/1", "a:h/1"}, {"fun a:f/1.5 h", "a:f/1", "a:h/1"}, {"fun a:f/1 f", "a:f/1", "a:f/1"}, {"fun a:f/0 b", "a:f/0", "a:b/0"}, {"fun a:f/6 put", "a:f/6", "a:put/6"},
		{"move a:f/1 b", "a:f/1", "b:f/1"}, {"move a:f/1.5 b", "a:f/1", "b:f/1"}, {"move a:f/1 a", "a:f/1", "a:f/1"}, {"move a:f/0 f", "a:f/0", "f:f/0"}, {"move a1:f_2/6 a", "a1:f_2/6", "a:f_2/6"},
		// Other functions, and what is none.
		{"fun a:f/1 h", "a:f/2", ""}, {"fun a:f/1 h", "a:f/11", ""}, {"fun a:f/1 h", "a:f/0", ""}, {"fun a:f/1 h", "b:f/1", ""}, {"fun a:f/1 h", "a:h/1", ""}, {"fun a:f/1 h", "aa:f/1", ""}, {"fun a:f/1 h", "a:ff/1", ""},
		{"move a:f/1 b", "a:f/2", ""}, {"move a:f/1 b", "a:f/10", ""}, {"move a:f/1 b", "b:f/1", ""}, {"move a:f/1 b", "a:g/1", ""}, {"move a:f/1 b", "c:f/1", ""},
		{"fun a:f/1 h", "", ""}, {"fun a:f/1 h", "a", ""}, {"fun a:f/1 h", "a:f", ""}, {"fun a:f/1 h", "f/1", ""}, {"fun a:f/1 h", ":f/1", ""}, {"fun a:f/1 h", "a:f/", ""}, {"fun a:f/1 h", "a:/1", ""}, {"fun a:f/1 h", "a:f/01", ""},
		{"fun a:f/1 h", "a:f/1 ", ""}, {"fun a:f/1 h", " a:f/1", ""}, {"fun a:f/1 h", "a : f / 1", ""}, {"fun a:f/1 h", "A:f/1", ""}, {"fun a:f/1 h", "a:F/1", ""}, {"fun a:f/1 h", "a:f/1\x00", ""}, {"fun a:f/1 h", "\xff", ""}, {"fun a:f/1 h", "a:f/-1", ""}, {"fun a:f/1 h", "a:f/+1", ""},
		{"move a:f/1 b", "", ""}, {"move a:f/1 b", "a:f/1x", ""}, {"move a:f/1 b", "a:f/1/1", ""}, {"move a:f/1 b", "a:f/1a:f/1", ""}, {"move a:f/1 b", strings.Repeat("a:f/1", 1000), ""},
		// The other kinds.
		{"var a:f/1 X Y", "a:f/1", ""}, {"cut a:f/1 0 1 h", "a:f/1", ""}, {"into a:f/1 0", "a:f/1", ""}, {"prune", "a:f/1", ""}, {"undo", "a:f/1", ""}, {"redo", "a:f/1", ""}, {"prune", ":/0", ""}, {"undo", "", ""},
	} {
		checkMaps(t, asCommand(t, k.command), k.name, k.want)
	}
	c := asCommand(t, "fun a:f/1 h")
	for kind := -3; kind < 20; kind++ {
		want := map[int]string{impl.CmRenameFun: "a:h/1", impl.CmMove: "h:f/1"}[kind]
		c.Kind = kind
		checkMaps(t, c, "a:f/1", want)
		checkMaps(t, c, "a:f/2", "")
	}
	for _, kind := range []int{1<<32 + 1, 1<<32 + 4, 257, math.MaxInt, math.MinInt} {
		c.Kind = kind
		checkMaps(t, c, "a:f/1", "")
	}
	// What the command wants beside the place and the name does not matter.
	checkMaps(t, impl.Command{Kind: impl.CmRenameFun, At: place("a", "f", 1, math.MinInt), From: -1, Count: 9, Old: "g", New: "h"}, "a:f/1", "a:h/1")
	checkMaps(t, impl.Command{Kind: impl.CmMove, At: place("a", "f", 1, math.MaxInt), From: -1, Count: 9, Old: "g", New: "h"}, "a:f/1", "h:f/1")
	m := newMaker(114)
	for range 2000 {
		c := m.oddCommand(nil)
		name := target{pickOf(m, programModules), pickOf(m, programFuns), m.Intn(3)}
		want := name
		if name == (target{c.At.Mod, c.At.Name, c.At.Arity}) && c.Kind == impl.CmRenameFun {
			want.name = c.New
		} else if name == (target{c.At.Mod, c.At.Name, c.At.Arity}) && c.Kind == impl.CmMove {
			want.mod = c.New
		}
		checkMaps(t, c, name.text(), want.text())
		checkMaps(t, c, pickOf(m, oddNames), "")
	}
}

// checkMaps takes no text for the name itself.
func checkMaps(t *testing.T, c impl.Command, name, want string) {
	t.Helper()
	if want == "" {
		want = name
	}
	if got := impl.Maps(c, name); got != want {
		t.Errorf("%q behind %+v is %q, not %q", name, c, got, want)
	}
}

// behind is the same start by the name that its function has behind these commands.
func (s start) behind(t *testing.T, list []impl.Command) start {
	t.Helper()
	name := target{s.mod, s.name, len(s.args)}.text()
	for _, c := range list {
		name = impl.Maps(c, name)
	}
	at := asPlace(t, name)
	if at.Arity != len(s.args) {
		t.Fatal("another number of parameters", name)
	}
	return start{at.Mod, at.Name, s.args}
}

// checkSameInSession wants of an exported function what it did at first, by the name that it has then. Little is so
// little fuel that the calls that were laid around others can't be too many.
func checkSameInSession(t *testing.T, p []impl.Module, a start, q []impl.Module, b start, little int) impl.Result {
	t.Helper()
	before, after := impl.Run(p, a.mod, a.name, a.args, little), impl.Run(q, b.mod, b.name, b.args, impl.MaxFuel/10)
	ended := before.Code == impl.RunOk || before.Code == impl.RunFail
	if before.Code == impl.RunNone || after.Code == impl.RunNone || ended && !impl.SameResult(before, after) || !beginsWith(after.Out, before.Out) {
		t.Fatalf("%sbecomes\n%s%s is %q, and was %q", programTextOf(p), programTextOf(q), startText(b.mod, b.name, b.args), impl.ResultText(after), impl.ResultText(before))
	}
	return before
}

// P11: commands of each kind, one behind the other and taken back, by hand: what each exported function does is checked
// behind each of them.
func TestShopSession(t *testing.T) {
	p, starts := shopProgram(t)
	commands := asCommands(t,
		"var main:run/2 S Sum", "cut main:run/2 0 2 begin", "fun main:fold/3 walk", "into main:run/2 0", "move shop:tax/1 util", "prune", "move shop:tell/1 main", "fun shop:price/1 cost",
		"cut main:step/3.1 0 1 note", "cut main:step/3.2 0 1 other", "var main:step/3.1 X Item", "fun util:put/1 say", "move main:note/1 util", "move main:other/2 util", "move main:step/3 util", "fun util:twice/1 double",
		"into util:double/1 0", "move main:loop/1 shop", "fun shop:loop/1 turn", "move util:odd/1 shop", "cut main:run/2 0 3 all", "into main:run/2 0", "fun main:run/2 walk", "var main:walk/2 Low Least",
		"cut shop:cost/1.1 0 1 both", "into shop:cost/1.1 0", "prune", "fun util:step/3 walk", "move util:walk/3 shop")
	s, _ := begun(t, p)
	done, again := []impl.Command{}, []impl.Command{}
	made, ran, moved := 0, map[int]int{}, 0
	check := func() {
		t.Helper()
		checkOk(t, "shop", s, true)
		for _, a := range starts {
			b := a.behind(t, done)
			ran[checkSameInSession(t, p, a, s.Now, b, 400).Code]++
			if b.mod != a.mod && b.name != a.name {
				moved++
			}
		}
	}
	step := func(c impl.Command) {
		t.Helper()
		var code int
		s, code = impl.Do(s, c)
		switch {
		case code != impl.EdOk:
			t.Fatal(plain(c), code, sessionText(s))
		case c.Kind == impl.CmUndo:
			last := len(done) - 1
			done, again = done[:last], append(again, done[last])
		case c.Kind == impl.CmRedo:
			last := len(again) - 1
			done, again = append(slices.Clone(done), again[last]), again[:last]
		default:
			done, again = append(slices.Clone(done), c), nil
		}
		made++
		check()
	}
	check()
	for i, c := range commands {
		step(c)
		if i%4 == 3 {
			step(undo)
			step(redo)
		}
	}
	if len(done) != len(commands) || len(s.Past) != 20 {
		t.Error("too few were made", len(done), sessionText(s))
	}
	for range 20 {
		step(undo)
	}
	if len(s.Past) != 0 || len(s.Next) != 20 {
		t.Error("taken back", sessionText(s))
	}
	for range 12 {
		step(redo)
	}
	step(asCommand(t, "fun shop:cost/1 worth"))
	step(asCommand(t, "move util:even/1 shop"))
	if len(s.Next) != 0 || len(s.Past) != 14 || made < 70 || moved < 30 || ran[impl.RunOk] < 300 || ran[impl.RunFail] < 300 || ran[impl.RunFuel] < 30 {
		t.Error("too few", made, moved, ran, sessionText(s))
	}
}

// P11: programs that are made, and commands of any kind, one behind the other and taken back.
func TestMadeSessionsDoTheSame(t *testing.T) {
	m := newMaker(115)
	told := map[string]int{}
	for i := range 420 {
		p := [](func() []impl.Module){m.goodRunnable, m.cuttable, m.inlinable}[i%3]()
		s, h := begun(t, p)
		starts, cuts := []start{}, 0
		for _, mod := range p {
			for _, ref := range mod.Exports {
				starts = append(starts, start{mod.Name, ref.Name, m.vals(ref.Arity, 1)})
			}
		}
		all := h
		for range 14 {
			c := m.command(s.Now)
			var code int
			s, h, code = checkDo(t, s, h, c)
			told[kindNames[c.Kind]+" "+impl.CodeText(code)]++
			if code != impl.EdOk {
				continue
			}
			// There are fewer commands than are forgotten.
			all = h
			if !impl.Good(s.Now) {
				t.Fatal("not good", sessionText(s))
			}
			if c.Kind == impl.CmExtract {
				cuts++
			}
			a := pickOf(m, starts)
			checkSameInSession(t, p, a, s.Now, a.behind(t, h.commands[:h.at]), 180/(cuts+1))
		}
		checkOk(t, "made", s, true)
		for _, a := range starts {
			b := a.behind(t, all.commands[:all.at])
			r := checkSameInSession(t, p, a, s.Now, b, 180/(cuts+1))
			told["run "+impl.CodeText(r.Code)]++
			told["out"] += min(1, len(r.Out))
			if b.mod != a.mod || b.name != a.name {
				told["by another name"]++
			}
		}
		// All of them taken back, the first program is there again.
		s, _ = impl.DoAll(s, slices.Repeat([]impl.Command{undo}, 14))
		if !sameProgram(s.Now, p) || len(s.Past) != 0 || len(s.Next) != len(h.commands) {
			t.Fatal("taken back", sessionText(s))
		}
		s, _ = impl.DoAll(s, slices.Repeat([]impl.Command{redo}, 14))
		if !sameProgram(s.Now, h.programs[len(h.commands)]) || len(s.Next) != 0 {
			t.Fatal("made again", sessionText(s))
		}
	}
	checkKinds(t, told, 100, "var ok", "fun ok", "cut ok", "into ok", "undo ok", "redo ok", "undo none", "redo none", "run ok", "run bad", "run none", "out", "by another name")
	checkKinds(t, told, 40, "move ok", "prune ok", "prune shape", "fun taken", "into shape", "move shape", "var taken")
}

// P11: with no part cut out and no body put in, as much fuel is enough as at first.
func TestMadeSessionsWantTheSameFuel(t *testing.T) {
	m := newMaker(116)
	moved := 0
	for range 120 {
		p := m.goodRunnable()
		s, h := begun(t, p)
		for range 12 {
			c := m.command(s.Now)
			if c.Kind != impl.CmExtract && c.Kind != impl.CmInline {
				s, h, _ = checkDo(t, s, h, c)
			}
		}
		for _, mod := range p {
			for _, ref := range mod.Exports {
				a := start{mod.Name, ref.Name, m.vals(ref.Arity, 2)}
				b := a.behind(t, h.commands[:h.at])
				checkSameRuns(t, p, a, s.Now, b, 200)
				if a.mod != b.mod || a.name != b.name {
					moved++
				}
			}
		}
	}
	if moved < 40 {
		t.Error("too few", moved)
	}
}

// What Open, Do and DoAll answer is a session, also of one that was made by hand, and of one at its limits.
func TestSessionsStaySessions(t *testing.T) {
	m := newMaker(117)
	for i := range 60 {
		h := rowOf(t, 40)
		s := h.standing(20)
		if i%2 == 0 {
			h = rowOf(t, m.Intn(30))
			s = h.standing(min(20, len(h.commands)))
		}
		checkOk(t, "at first", s, true)
		list := []impl.Command{}
		for range m.Intn(30) {
			list = append(list, pickOf(m, []impl.Command{undo, redo, m.commandOf(h.programs[0], pickOf(m, changeKinds))}))
		}
		got, _ := checkDoAll(t, s, list)
		checkOk(t, plain(list), got, true)
	}
}

// A session whose programs meet every limit.
func TestSessionOfFullPrograms(t *testing.T) {
	p := []impl.Module{}
	for i := range 2 {
		p = append(p, fullModule("m"+strconv.Itoa(i)))
	}
	s, h := begun(t, p)
	for _, c := range asCommands(t, "var m1:f29/6.19 F New", "fun m0:f10/6 zzzzzzzzzz", "prune", "cut m0:f11/6 0 1 part", "undo", "prune", "redo") {
		s, h, _ = checkDo(t, s, h, c)
	}
	checkOk(t, "full", s, true)
	if len(h.commands) < 3 {
		t.Error("too few were made", len(h.commands))
	}
}

// spoilSession writes into all that is answered.
func spoilSession(s impl.Session) {
	for _, list := range [][][]impl.Module{s.Past, s.Next, {s.Now}} {
		for _, p := range list {
			spoilProgram(p)
		}
		clear(list)
	}
	clear(s.Done)
	clear(s.Again)
}

// What is answered shares no memory with the arguments, no two lists of it share any, and nothing is written into the arguments.
func TestSessionMemory(t *testing.T) {
	m := newMaker(118)
	for i := range 40 {
		s := m.oddSession(i)
		if i%2 == 0 {
			s, _ = impl.Open(m.goodRunnable())
			for range 6 {
				s, _ = impl.Do(s, m.command(s.Now))
			}
		}
		list := []impl.Command{undo, redo, m.oddCommand(s.Now), {Kind: impl.CmPrune}}
		if impl.Good(s.Now) && len(s.Now) > 0 {
			list = append(list, m.command(s.Now))
		}
		checkUntouched(t, list, func(list []impl.Command) {
			checkUntouched(t, s, func(s impl.Session) {
				impl.SessionOk(s)
				for _, c := range list {
					got, _ := impl.Do(s, c)
					made, _ := impl.Change(s.Now, c)
					checkApart(t, []any{got, made}, s, list)
					checkApart(t, got, s, list)
					checkApart(t, made, s, got)
					spoilSession(got)
					spoilProgram(made)
				}
				opened, _ := impl.Open(s.Now)
				checkApart(t, opened, s)
				spoilSession(opened)
				for _, list := range [][]impl.Command{list, list[:0], slices.Repeat(list, 26), make([]impl.Command, 201)} {
					got, codes := impl.DoAll(s, list)
					checkApart(t, got, s, list)
					checkApart(t, codes, s, list, got)
					spoilSession(got)
					clear(codes)
				}
			})
		})
	}
}

// A session may hold one list in many places; what is made of it does not.
func TestSessionOfSharedLists(t *testing.T) {
	p := alone(t, "f/1", "f(X) -> f(X), {X}. u() -> 1.")
	list := [][]impl.Module{p, p}
	commands := asCommands(t, "prune", "prune")
	s := impl.Session{Now: p, Past: list, Next: list, Done: commands, Again: commands}
	for _, c := range asCommands(t, "undo", "redo", "prune", "var m:f/1 X Y", "var m:f/1 X X", "cut m:f/1 0 2 part") {
		checkUntouched(t, list, func([][]impl.Module) {
			got, _ := checkSlowDo(t, s, c)
			spoilSession(got)
		})
		got, _ := checkDoAll(t, s, []impl.Command{c, undo, redo, c, undo, undo, redo})
		spoilSession(got)
	}
	if !sameProgram(p, alone(t, "f/1", "f(X) -> f(X), {X}. u() -> 1.")) || commands[0].Kind != impl.CmPrune || len(list[1]) != 1 {
		t.Error("written into", programTextOf(p), commands)
	}
}

// Programs whose lists hold themselves are not good; what is made of their session holds itself as well.
func TestSessionOfEndlessPrograms(t *testing.T) {
	p, good := []impl.Module{endless("m"), endless("z")}, alone(t, "f/0", "f() -> 1. g() -> 2.")
	change := asCommand(t, "fun m:f/0 new")
	for _, c := range append(asCommands(t, "var m:f/0 X Y", "cut m:f/0 0 1 g", "into m:f/0 0", "move m:f/0 z", "prune"), change) {
		got, code := impl.Change(p, c)
		checkHoldsItself(t, p, got, code)
		s, code := impl.Do(impl.Session{Now: p}, c)
		checkHoldsItself(t, p, s.Now, code)
	}
	for _, s := range []impl.Session{
		{Now: p}, {Now: good, Past: [][]impl.Module{p}, Done: []impl.Command{change}}, {Now: p, Past: [][]impl.Module{good}, Done: []impl.Command{change}},
		{Now: good, Next: [][]impl.Module{p}, Again: []impl.Command{change}}, {Now: p, Next: [][]impl.Module{good}, Again: []impl.Command{change}},
	} {
		if impl.SessionOk(s) {
			t.Error("a session of endless programs")
		}
		got, codes := impl.DoAll(s, []impl.Command{undo, redo, change, undo, redo})
		if len(codes) != 5 || len(got.Past)+len(got.Next) != max(len(s.Past)+len(s.Next), len(got.Past)+len(got.Next)) {
			t.Error(codes)
		}
		got, codes = impl.DoAll(s, make([]impl.Command, 201))
		if len(codes) != 0 || len(got.Now) != len(s.Now) {
			t.Error(codes)
		}
	}
	s, code := impl.Do(impl.Session{Now: good, Past: [][]impl.Module{p}, Done: []impl.Command{change}}, undo)
	if code != impl.EdOk || !sameProgram(s.Next[0], good) {
		t.Error(code)
	}
	checkHoldsItself(t, p, s.Now, impl.EdBad)
	s, code = impl.Do(impl.Session{Now: p, Next: [][]impl.Module{good}, Again: []impl.Command{change}}, redo)
	if code != impl.EdOk || !sameProgram(s.Now, good) {
		t.Error(code)
	}
	checkHoldsItself(t, p, s.Past[0], impl.EdBad)
}

// Nothing is kept: what is done beside one another to one session does not see each other.
func TestSessionsApart(t *testing.T) {
	h := rowOf(t, 12)
	s := h.standing(6)
	list := append(asCommands(t, "fun a:g/0 one", "fun a:g/0 two", "var a:f/1 N5 Other", "undo", "redo", "prune", "cut a:f/1 0 1 part", "into a:f/1 0", "fun a:f/1 g", "undo", "redo"), impl.Command{Kind: 9})
	told := checkAlongside(t, len(list)*4, func(i int) string {
		c := list[i%len(list)]
		one, code := impl.Do(s, c)
		all, codes := impl.DoAll(s, []impl.Command{c, undo, c, redo})
		return sessionText(one) + impl.CodeText(code) + sessionText(all) + codeTexts(codes) + strconv.FormatBool(impl.SessionOk(one) && impl.SessionOk(all))
	})
	for _, text := range told {
		if !strings.HasSuffix(text, "true") {
			t.Error("no session", text)
		}
	}
}
