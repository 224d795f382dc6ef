package tests

import (
	"slices"

	"loop.example/g00377/impl"
)

// runMaker makes programs that do something: most names that are asked for are bound, and most calls end.
// Where good is set, all of them are Good.
type runMaker struct {
	maker
	good bool
	mods []impl.Module
}

// scope are the names that are bound where an expression is made.
type scope struct {
	names []string
}

var runNames = []string{"A", "B", "C", "D"}

// runnable makes a program of up to three modules; what is asked for is not always there.
func (m maker) runnable() []impl.Module { return m.runnableOf(false) }

// goodRunnable makes one that has no problem: what is asked for is there.
func (m maker) goodRunnable() []impl.Module { return m.runnableOf(true) }

func (m maker) runnableOf(good bool) []impl.Module {
	made := runMaker{maker: m, good: good}
	for _, name := range []string{"a", "b", "c"}[:1+m.Intn(3)] {
		made.mods = append(made.mods, made.outline(name))
	}
	for i := range made.mods {
		for j := range made.mods[i].Funs {
			made.fill(i, j)
		}
	}
	return made.mods
}

// astray is true once in so many times, and never where the program is to be good.
func (m runMaker) astray(times int) bool { return m.Intn(times) == 0 && !m.good }

// outline has functions without clauses, most of which are exported.
func (m runMaker) outline(name string) impl.Module {
	made := impl.Module{Name: name}
	for _, fun := range []string{"f", "g", "put"} {
		for arity := range 3 {
			there := m.Intn(3) == 0 && (fun != "put" || m.Intn(4) == 0)
			if there {
				made.Funs = append(made.Funs, impl.Fun{Name: fun, Arity: arity})
			}
			if there && m.Intn(5) > 0 || m.astray(20) {
				made.Exports = append(made.Exports, impl.Ref{Name: fun, Arity: arity})
			}
		}
	}
	made.Funs = append(made.Funs, impl.Fun{Name: "z", Arity: 1})
	made.Exports = append(made.Exports, impl.Ref{Name: "z", Arity: 1})
	return made
}

func (m runMaker) fill(at, fun int) {
	f := &m.mods[at].Funs[fun]
	for i := range 1 + m.Intn(3) {
		s := &scope{}
		c := impl.Clause{}
		for range f.Arity {
			c.Pats = append(c.Pats, m.pattern(s, i+1))
		}
		for range 1 + m.Intn(3) {
			c.Body = append(c.Body, m.act(at, s, 3))
		}
		f.Clauses = append(f.Clauses, c)
	}
}

// pattern fits more the greater easy is; its names are bound in the scope.
func (m runMaker) pattern(s *scope, easy int) impl.Exp {
	if m.Intn(3) < easy {
		name := pickOf(m.maker, runNames)
		s.names = append(s.names, name)
		return variable(name)
	}
	switch m.Intn(6) {
	case 0:
		return none()
	case 1:
		return atom(pickOf(m.maker, valueAtoms))
	case 2:
		return cons(m.pattern(s, 2), m.pattern(s, 2))
	case 3:
		return tuple(m.pattern(s, 2), m.pattern(s, 1))
	case 4:
		return anyOne()
	}
	return num(m.Intn(3))
}

func (m runMaker) end(s *scope) impl.Exp {
	if len(s.names) > 0 && m.Intn(3) > 0 {
		return variable(pickOf(m.maker, s.names))
	}
	switch m.Intn(12) {
	case 0:
		if m.good {
			return atom("good")
		}
		return variable(pickOf(m.maker, runNames))
	case 1, 2:
		return none()
	case 3, 4:
		return atom(pickOf(m.maker, valueAtoms))
	}
	return num(m.Intn(3))
}

func (m runMaker) acts(count, at int, s *scope, deep int) []impl.Exp {
	list := []impl.Exp{}
	for range count {
		list = append(list, m.act(at, s, deep))
	}
	return list
}

// act makes an expression in one module; what it binds is in the scope then.
func (m runMaker) act(at int, s *scope, deep int) impl.Exp {
	if deep == 0 {
		return m.end(s)
	}
	switch m.Intn(14) {
	case 0:
		return m.end(s)
	case 1:
		return tuple(m.acts(1+m.Intn(3), at, s, deep-1)...)
	case 2:
		return cons(m.act(at, s, deep-1), m.act(at, s, deep-1))
	case 3:
		return op(pickOf(m.maker, []string{"+", "-", "*"}), num(m.Intn(9)), m.act(at, s, 0))
	case 4:
		return op(pickOf(m.maker, madeOps), m.act(at, s, deep-1), m.act(at, s, deep-1))
	case 5, 6:
		return call("", "put", m.act(at, s, deep-1))
	case 7, 8, 9:
		e := m.act(at, s, deep-1)
		return match(m.pattern(s, 2), e)
	case 10, 11:
		return m.choice(at, s, deep-1)
	}
	to := m.goal(at)
	return call(to.mod, to.name, m.acts(to.arity, at, s, deep-1)...)
}

// choice keeps what its clauses bind to themselves, but now and then: a name may be asked for that is not bound then.
func (m runMaker) choice(at int, s *scope, deep int) impl.Exp {
	made := cases(m.act(at, s, deep))
	for i := range 1 + m.Intn(3) {
		inner := &scope{names: append([]string{}, s.names...)}
		pat := m.pattern(inner, i+1)
		made.Clauses = append(made.Clauses, clause(only(pat), m.acts(1+m.Intn(2), at, inner, deep)...))
		if m.astray(10) {
			s.names = append(s.names, inner.names...)
		}
	}
	return made
}

// goal is what is called: most of the time what is there.
func (m runMaker) goal(at int) target {
	if m.astray(12) {
		return target{pickOf(m.maker, []string{"", "a", "b", "gone"}), pickOf(m.maker, []string{"f", "g", "put"}), m.Intn(3)}
	}
	i := m.Intn(len(m.mods))
	f := pickOf(m.maker, m.mods[i].Funs)
	if i == at && m.Intn(3) > 0 {
		return target{"", f.Name, f.Arity}
	}
	if offered := slices.Contains(m.mods[i].Exports, impl.Ref{Name: f.Name, Arity: f.Arity}); m.good && !offered {
		return target{m.mods[i].Name, "z", 1}
	}
	return target{m.mods[i].Name, f.Name, f.Arity}
}

// start is a function to run, most of the time one that is exported, with values.
func (m maker) start(p []impl.Module) (string, string, []impl.Val) {
	mod := pickOf(m, p)
	ref := pickOf(m, mod.Exports)
	args := m.vals(ref.Arity, 2)
	switch m.Intn(40) {
	case 0:
		return "gone", ref.Name, args
	case 1:
		return mod.Name, "z", args
	case 2:
		return mod.Name, ref.Name, append(args, m.oddVal(1))
	case 3:
		if len(args) > 0 {
			args[0] = m.oddVal(2)
		}
	}
	return mod.Name, ref.Name, args
}
