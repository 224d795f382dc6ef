package tests

import "loop.example/g00377/impl"

// cutMaker makes bodies of many expressions that bind names and want them, most of which come to their end: values
// fit patterns by their shape, and are so few that a name that is tested again often fits.
type cutMaker struct {
	maker
	names []string
}

var cutNames = []string{"A", "B", "C", "D", "E", "F", "G", "H", "Ab", "A1", "I1", "I2"}

// cutPlace is that of any clause, where there is such a function one of f/2 in module m most of the time.
func (m maker) cutPlace(p []impl.Module) impl.Place {
	at := impl.Place{Mod: "m", Name: "f", Arity: 2}
	if clauses := clausesIn(p, at); len(clauses) > 0 && m.Intn(4) > 0 {
		at.Clause = m.Intn(len(clauses))
		return at
	}
	return m.placeIn(p)
}

// cutOf are numbers of EXPs that are there, most of the time not all of them.
func (m maker) cutOf(c impl.Clause) (from, count int) {
	from = m.Intn(len(c.Body))
	if m.Intn(2) == 0 {
		from /= 2
	}
	return from, 1 + m.Intn(len(c.Body)-from)
}

// clausesOf tells each clause of a program with its place.
func clausesOf(p []impl.Module) func(yield func(impl.Place, impl.Clause) bool) {
	return func(yield func(impl.Place, impl.Clause) bool) {
		for _, m := range p {
			for _, f := range m.Funs {
				for i, c := range f.Clauses {
					if !yield(impl.Place{Mod: m.Name, Name: f.Name, Arity: f.Arity, Clause: i}, c) {
						return
					}
				}
			}
		}
	}
}

func clausesIn(p []impl.Module, at impl.Place) []impl.Clause {
	for _, m := range p {
		for _, f := range m.Funs {
			if m.Name == at.Mod && f.Name == at.Name && f.Arity == at.Arity {
				return f.Clauses
			}
		}
	}
	return nil
}

func clauseIn(p []impl.Module, at impl.Place) impl.Clause {
	if list := clausesIn(p, at); at.Clause >= 0 && at.Clause < len(list) {
		return list[at.Clause]
	}
	return impl.Clause{}
}

// cuttable makes a good program with a function f/2 of long bodies, which calls some that answer at any values.
func (m maker) cuttable() []impl.Module {
	f := impl.Fun{Name: "f", Arity: 2}
	for i := range 1 + m.Intn(3) {
		made := &cutMaker{maker: m, names: []string{"A", "B"}}
		pats := []impl.Exp{variable("A"), variable("B")}
		if i == 0 && m.Intn(2) == 0 {
			pats[1] = tuple(variable("B"), variable(pickOf(m, []string{"A", "C"})))
			made.names = append(made.names, pats[1].Kids[1].Text)
		}
		f.Clauses = append(f.Clauses, clause(pats, made.acts(3+m.Intn(6), 3)...))
	}
	own := &cutMaker{maker: m, names: []string{"A"}}
	g := impl.Fun{Name: "g", Arity: 1, Clauses: []impl.Clause{clause(only(variable("A")), call("", "put", tuple(atom("g"), variable("A"))), own.value(0))}}
	home := impl.Module{Name: "m", Exports: []impl.Ref{{Name: "f", Arity: 2}}, Funs: []impl.Fun{f, g}}
	far := impl.Module{Name: "n", Exports: []impl.Ref{{Name: "g", Arity: 1}}, Funs: []impl.Fun{g}}
	return []impl.Module{home, far}
}

func (m *cutMaker) acts(count, deep int) []impl.Exp {
	list := []impl.Exp{}
	for range count {
		list = append(list, m.act(deep))
	}
	return list
}

// act is what a body does: most often it binds something.
func (m *cutMaker) act(deep int) impl.Exp {
	if m.Intn(3) > 0 {
		return m.binding(deep)
	}
	return m.value(deep)
}

// binding is a match that fails only where a name is bound already.
func (m *cutMaker) binding(deep int) impl.Exp {
	switch m.Intn(6) {
	case 0:
		e := tuple(m.value(deep-1), m.value(deep-1))
		return match(tuple(m.target(), m.target()), e)
	case 1:
		e := cons(m.value(deep-1), m.value(deep-1))
		return match(cons(m.target(), anyOne()), e)
	}
	e := m.value(deep - 1)
	return match(m.target(), e)
}

// target is a name that is bound then, now and then one that was bound already.
func (m *cutMaker) target() impl.Exp {
	name := pickOf(m.maker, cutNames)
	for range 3 {
		if m.isBound(name) && m.Intn(8) > 0 {
			name = pickOf(m.maker, cutNames)
		}
	}
	m.names = append(m.names, name)
	return variable(name)
}

func (m *cutMaker) isBound(name string) bool {
	for _, bound := range m.names {
		if bound == name {
			return true
		}
	}
	return false
}

func (m *cutMaker) value(deep int) impl.Exp {
	if deep <= 0 {
		if m.Intn(4) == 0 {
			return num(m.Intn(2))
		}
		return variable(pickOf(m.maker, m.names))
	}
	switch m.Intn(9) {
	case 0:
		return tuple(m.value(deep-1), m.value(deep-1))
	case 1:
		return cons(m.value(deep-1), none())
	case 2:
		return op(pickOf(m.maker, []string{"==", "<"}), m.value(deep-1), m.value(deep-1))
	case 3:
		return op("+", num(m.Intn(2)), pickOf(m.maker, []impl.Exp{num(0), num(0), num(0), m.value(0)}))
	case 4:
		return call("", "put", m.value(deep-1))
	case 5:
		return call(pickOf(m.maker, []string{"", "n"}), "g", m.value(deep-1))
	case 6:
		return m.binding(deep - 1)
	case 7:
		return m.choice(deep - 1)
	}
	return m.value(0)
}

// choice has a clause that always fits behind one that need not; what they bind is not bound behind them.
func (m *cutMaker) choice(deep int) impl.Exp {
	e := cases(m.value(deep))
	for _, last := range []bool{false, true} {
		inner := &cutMaker{maker: m.maker, names: append([]string{}, m.names...)}
		pat := anyOne()
		switch {
		case last:
		case m.Intn(3) == 0:
			pat = num(0)
		default:
			pat = inner.target()
		}
		e.Clauses = append(e.Clauses, clause(only(pat), inner.acts(1+m.Intn(2), deep)...))
	}
	return e
}
