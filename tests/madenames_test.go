package tests

import "loop.example/g00377/impl"

var scopeNames = []string{"A", "B", "C", "D"}

func (m maker) scopeVar() impl.Exp { return variable(pickOf(m, scopeNames)) }

// scopeExp makes a good expression of few names, most of which are bound somewhere and stand somewhere else.
func (m maker) scopeExp(deep int) impl.Exp {
	if deep == 0 || m.Intn(6) == 0 {
		return m.scopeVar()
	}
	switch m.Intn(8) {
	case 0:
		return tuple(m.scopeExps(1+m.Intn(3), deep-1)...)
	case 1:
		return cons(m.scopeExp(deep-1), m.scopeExp(deep-1))
	case 2:
		return op("+", m.scopeExp(deep-1), m.scopeExp(deep-1))
	case 3:
		return call(pickOf(m, []string{"", "m"}), pickOf(m, []string{"f", "g", "put"}), m.scopeExps(m.Intn(3), deep-1)...)
	case 4, 5:
		return match(m.scopePattern(), m.scopeExp(deep-1))
	}
	list := []impl.Clause{}
	for range 1 + m.Intn(2) {
		list = append(list, clause(only(m.scopePattern()), m.scopeExps(1+m.Intn(2), deep-1)...))
	}
	return cases(m.scopeExp(deep-1), list...)
}

func (m maker) scopeExps(count, deep int) []impl.Exp {
	list := []impl.Exp{}
	for range count {
		list = append(list, m.scopeExp(deep))
	}
	return list
}

func (m maker) scopePattern() impl.Exp {
	switch m.Intn(5) {
	case 0:
		return tuple(m.scopeVar(), m.scopeVar())
	case 1:
		return cons(m.scopeVar(), anyOne())
	case 2:
		return pickOf(m, []impl.Exp{anyOne(), num(1), atom("a"), none()})
	}
	return m.scopeVar()
}

// oddExp makes any expression, most of which have parts that their kind has not, or lack some.
func (m maker) oddExp(deep int) impl.Exp {
	e := impl.Exp{
		Kind: m.Intn(13) - 1,
		N:    m.Intn(3) - 1,
		Text: pickOf(m, []string{"A", "B", "C", "f", "", "\xff"}),
		Mod:  pickOf(m, []string{"", "", "m", "M"}),
	}
	if m.Intn(4) == 0 {
		e.Kind = impl.ExMatch
	}
	if deep == 0 {
		return e
	}
	e.Kids = m.oddExps(m.Intn(4), deep-1)
	for range m.Intn(8) / 6 {
		e.Clauses = append(e.Clauses, m.oddClause(deep-1))
	}
	return e
}

func (m maker) oddExps(count, deep int) []impl.Exp {
	list := []impl.Exp{}
	for range count {
		list = append(list, m.oddExp(deep))
	}
	return list
}

func (m maker) oddClause(deep int) impl.Clause {
	return impl.Clause{Pats: m.oddExps(m.Intn(3), deep), Body: m.oddExps(m.Intn(3), deep)}
}
