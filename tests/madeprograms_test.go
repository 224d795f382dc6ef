package tests

import (
	"slices"
	"strings"

	"loop.example/g00377/impl"
)

var (
	programModules = []string{"a", "a1", "aB", "b", "m", "put"}
	programFuns    = []string{"f", "f1", "g", "h", "put"}
)

// target is a function that may be called, as a call names it.
type target struct {
	mod, name string
	arity     int
}

// programMaker makes programs that are ProgramOk. All are Good where wrong is 0; else one call of so many goes astray.
type programMaker struct {
	maker
	wrong int
	mods  []impl.Module
}

func (m maker) program(wrong int) []impl.Module {
	made := programMaker{maker: m, wrong: wrong}
	for _, name := range programModules {
		if m.Intn(2) == 0 {
			made.mods = append(made.mods, made.signatures(name))
		}
	}
	for i := range made.mods {
		made.fill(i)
	}
	return made.mods
}

func (m programMaker) astray() bool { return m.wrong > 0 && m.Intn(m.wrong) == 0 }

// signatures has functions without clauses, so that others can call what is filled later.
func (m programMaker) signatures(name string) impl.Module {
	made := impl.Module{Name: name}
	for _, fun := range programFuns {
		for arity := range 3 {
			there := m.Intn(4) == 0
			if there {
				made.Funs = append(made.Funs, impl.Fun{Name: fun, Arity: arity})
			}
			if there && m.Intn(3) == 0 || m.astray() && m.Intn(3) == 0 {
				made.Exports = append(made.Exports, impl.Ref{Name: fun, Arity: arity})
			}
		}
	}
	if len(made.Funs) == 0 {
		made.Funs = []impl.Fun{{Name: "alone"}}
	}
	m.Shuffle(len(made.Funs), func(i, j int) { made.Funs[i], made.Funs[j] = made.Funs[j], made.Funs[i] })
	return made
}

func (m programMaker) fill(at int) {
	for i := range m.mods[at].Funs {
		f := &m.mods[at].Funs[i]
		for range 1 + m.Intn(2) {
			c := impl.Clause{}
			for j := range f.Arity {
				c.Pats = append(c.Pats, variable([]string{"A", "B"}[j]))
			}
			for range 1 + m.Intn(2) {
				c.Body = append(c.Body, m.doing(at, f.Arity, 2))
			}
			f.Clauses = append(f.Clauses, c)
		}
	}
}

func (m programMaker) leafOf(arity int) impl.Exp {
	switch {
	case m.astray() && m.Intn(6) == 0:
		return variable("Free")
	case arity > 0 && m.Intn(2) == 0:
		return variable([]string{"A", "B"}[m.Intn(arity)])
	}
	return num(m.Intn(3))
}

// doing makes an expression in a function of so many parameters, which calls what is there.
func (m programMaker) doing(at, arity, deep int) impl.Exp {
	if deep == 0 {
		return m.leafOf(arity)
	}
	inner := func() impl.Exp { return m.doing(at, arity, deep-1) }
	switch m.Intn(9) {
	case 0:
		return m.leafOf(arity)
	case 1:
		return tuple(inner(), inner())
	case 2:
		return cons(inner(), inner())
	case 3:
		return op("+", inner(), inner())
	case 4:
		return match(variable("X"), inner())
	case 5:
		return cases(inner(), clause(only(variable("Y")), inner(), inner()), clause(only(anyOne()), inner()))
	}
	to := m.callable(at)
	kids := []impl.Exp{}
	for range to.arity {
		kids = append(kids, inner())
	}
	return call(to.mod, to.name, kids...)
}

// callable is what may be called in one module, and now and then what may not.
func (m programMaker) callable(at int) target {
	if m.astray() {
		return target{pickOf(m.maker, append([]string{"", "", "gone"}, programModules...)), pickOf(m.maker, programFuns), m.Intn(3)}
	}
	list := []target{{"", "put", 1}}
	for i, mod := range m.mods {
		for _, f := range mod.Funs {
			if i == at {
				list = append(list, target{"", f.Name, f.Arity})
			}
			if slices.Contains(mod.Exports, impl.Ref{Name: f.Name, Arity: f.Arity}) {
				list = append(list, target{mod.Name, f.Name, f.Arity})
			}
		}
	}
	return pickOf(m.maker, list)
}

// goodProgram makes one that calls nothing but what is there.
func (m maker) goodProgram() []impl.Module { return m.program(0) }

// anyProgram makes good ones, such as have problems, and modules of any kind, one behind the other.
func (m maker) anyProgram(turn int) []impl.Module {
	if turn%5 > 0 {
		return m.program([]int{0, 0, 0, 12}[turn%4])
	}
	p := []impl.Module{}
	for range m.Intn(3) {
		p = append(p, m.oddModule())
	}
	return p
}

// targetsOf tells the calls of a function in the order of the words that it is shown with.
func targetsOf(words []impl.Token) []target {
	list := []target{}
	for i, w := range words {
		if w.Kind != impl.TokAtom || words[i+1].Text != "(" {
			continue
		}
		to := target{"", w.Text, kidsBehind(words, i+1)}
		if i > 0 && words[i-1].Text == ":" {
			to.mod = words[i-2].Text
		}
		list = append(list, to)
	}
	return list
}

func (to target) text() string {
	return to.mod + ":" + to.name + "/" + impl.DecText(to.arity)
}

// programTextOf is a program as it is shown, for a failure's message.
func programTextOf(p []impl.Module) string {
	texts := []string{}
	for _, m := range p {
		texts = append(texts, impl.Show(m))
	}
	return strings.Join(texts, "")
}
