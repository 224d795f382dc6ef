package tests

import (
	"slices"

	"loop.example/g00377/impl"
)

// calledOnes are the functions that made bodies call. Those from w on have not the shape that a body can stand for.
var calledOnes = []impl.Ref{{Name: "h"}, {Name: "g", Arity: 1}, {Name: "r", Arity: 1}, {Name: "k", Arity: 2}, {Name: "k", Arity: 3}, {Name: "w", Arity: 1}, {Name: "v", Arity: 1}, {Name: "d", Arity: 2}}

// inlinable makes a good program with a function f/2, whose bodies call functions of their module by expressions of
// their own, within a match and without one.
func (m maker) inlinable() []impl.Module {
	p := m.cuttable()
	p[0].Funs = p[0].Funs[1:]
	own := &cutMaker{maker: m, names: []string{"C"}}
	body := append(only(match(variable("C"), num(m.Intn(2)))), own.acts(m.Intn(3), 2)...)
	p[0].Funs = append(p[0].Funs, impl.Fun{Name: "h", Clauses: []impl.Clause{clause(nil, body...)}})
	for arity := 2; arity <= 3; arity++ {
		c := m.calledBy(arity, calledOnes[:arity])
		p[0].Funs = append(p[0].Funs, impl.Fun{Name: "k", Arity: arity, Clauses: []impl.Clause{c}})
	}
	last := clause(only(anyOne()), variable("A"))
	turn := cases(variable("A"), clause(only(cons(variable("H"), variable("T"))), call("", "put", variable("H")), call("", "r", variable("T"))), last)
	f := impl.Fun{Name: "f", Arity: 2}
	for range 1 + m.Intn(2) {
		f.Clauses = append(f.Clauses, m.calledBy(2, calledOnes))
	}
	p[0].Funs = append(p[0].Funs,
		impl.Fun{Name: "r", Arity: 1, Clauses: []impl.Clause{clause(only(variable("A")), turn)}},
		impl.Fun{Name: "w", Arity: 1, Clauses: []impl.Clause{clause(only(num(0)), num(1)), clause(only(variable("A")), variable("A"))}},
		impl.Fun{Name: "v", Arity: 1, Clauses: []impl.Clause{clause(only(tuple(variable("A"), variable("B"))), variable("B"))}},
		impl.Fun{Name: "d", Arity: 2, Clauses: []impl.Clause{clause([]impl.Exp{variable("A"), variable("A")}, variable("A"))}},
		f)
	m.Shuffle(len(p[0].Funs), func(i, j int) { p[0].Funs[i], p[0].Funs[j] = p[0].Funs[j], p[0].Funs[i] })
	return p
}

// calledBy is a clause of so many parameters, no two alike, which calls some of these.
func (m maker) calledBy(arity int, refs []impl.Ref) impl.Clause {
	c, made := impl.Clause{}, &cutMaker{maker: m}
	for _, i := range m.Perm(len(cutNames))[:arity] {
		made.names = append(made.names, cutNames[i])
		c.Pats = append(c.Pats, variable(cutNames[i]))
	}
	for range 1 + m.Intn(4) {
		switch m.Intn(5) {
		case 0, 1:
			c.Body = append(c.Body, made.calling(pickOf(m, refs)))
		case 2, 3:
			e := made.calling(pickOf(m, refs))
			c.Body = append(c.Body, match(made.target(), e))
		default:
			c.Body = append(c.Body, made.act(2))
		}
	}
	return c
}

// calling is a call by itself, of values of any kind: those of matches among them, which bind names.
func (m *cutMaker) calling(ref impl.Ref) impl.Exp {
	kids := []impl.Exp{}
	for range ref.Arity {
		kids = append(kids, m.value(m.Intn(3)))
	}
	return call("", ref.Name, kids...)
}

// callPlace is that of any clause, and the number of one of its EXPs: a call, where there is one, most of the time.
func (m maker) callPlace(p []impl.Module) (impl.Place, int) {
	at := m.cutPlace(p)
	body := clauseIn(p, at).Body
	isCall := func(e impl.Exp) bool {
		return e.Kind == impl.ExCall || e.Kind == impl.ExMatch && e.Kids[1].Kind == impl.ExCall
	}
	n := m.Intn(len(body))
	if first := slices.IndexFunc(body[n:], isCall); first > 0 && m.Intn(8) > 0 {
		n += first
	}
	return at, n
}
