package tests

import (
	"slices"

	"loop.example/g00377/impl"
)

// machine runs a program step by step, without a call of its own for a call of the program: a list of what is still
// to be done, a list of values, and a list of the calls that are under way.
type machine struct {
	p      []impl.Module
	fuel   int
	todo   []func()
	vals   []impl.Val
	frames []machineFrame
	result impl.Result
	ended  bool
}

type machineFrame struct {
	home impl.Module
	env  []impl.Bind
}

func slowRun(p []impl.Module, mod, name string, args []impl.Val, fuel int) impl.Result {
	to, ok := target{mod, name, len(args)}, fuel >= 0 && fuel <= 100000
	for _, v := range args {
		ok = ok && impl.ValOk(v)
	}
	if !ok || !impl.ProgramOk(p) || !exportsIt(p, to) {
		return impl.Result{Code: impl.RunNone}
	}
	m := &machine{p: p, fuel: fuel}
	m.vals = append(m.vals, args...)
	m.do(func() { m.enter(to) })
	for !m.ended && len(m.todo) > 0 {
		last := len(m.todo) - 1
		next := m.todo[last]
		m.todo = m.todo[:last]
		next()
	}
	if !m.ended {
		m.result.Val = m.pop(1)[0]
	}
	return m.result
}

func exportsIt(p []impl.Module, to target) bool {
	_, ok := goesTo(p, impl.Module{}, to)
	return ok
}

// do lays down steps, of which the first is done first.
func (m *machine) do(steps ...func()) {
	slices.Reverse(steps)
	m.todo = append(m.todo, steps...)
}

func (m *machine) begin(e impl.Exp) func() {
	return func() { m.step(e) }
}

// all are steps for each of a list, and one behind.
func (m *machine) all(list []impl.Exp, behind func()) {
	steps := []func(){}
	for _, e := range list {
		steps = append(steps, m.begin(e))
	}
	m.do(append(steps, behind)...)
}

// body keeps the last value alone.
func (m *machine) body(list []impl.Exp) {
	m.all(list, func() { m.push(m.pop(len(list))[len(list)-1]) })
}

func (m *machine) pop(count int) []impl.Val {
	at := len(m.vals) - count
	list := slices.Clone(m.vals[at:])
	m.vals = m.vals[:at]
	return list
}

func (m *machine) push(v impl.Val) { m.vals = append(m.vals, v) }

func (m *machine) frame() *machineFrame { return &m.frames[len(m.frames)-1] }

func (m *machine) stop(code int, why string) {
	m.ended, m.result.Code, m.result.Why = true, code, why
}

func partsIn(v impl.Val) int {
	sum := 1
	for _, kid := range v.Kids {
		sum += partsIn(kid)
	}
	return sum
}

func (m *machine) made(v impl.Val) {
	if partsIn(v) > 2000 {
		m.stop(impl.RunFuel, "")
	}
	m.push(v)
}

func (m *machine) step(e impl.Exp) {
	if m.fuel == 0 {
		m.stop(impl.RunFuel, "")
		return
	}
	m.fuel--
	switch e.Kind {
	case impl.ExNum:
		m.push(numVal(e.N))
	case impl.ExAtom:
		m.push(atomVal(e.Text))
	case impl.ExNil:
		m.push(nilVal())
	case impl.ExVar:
		at := slices.IndexFunc(m.frame().env, func(b impl.Bind) bool { return b.Name == e.Text })
		if at < 0 {
			m.stop(impl.RunFail, "unbound")
			return
		}
		m.push(m.frame().env[at].Val)
	case impl.ExTuple:
		m.all(e.Kids, func() { m.made(tupleVal(m.pop(len(e.Kids))...)) })
	case impl.ExCons:
		m.all(e.Kids, func() { m.made(impl.Val{Kind: impl.VCons, Kids: m.pop(2)}) })
	case impl.ExOp:
		m.all(e.Kids, func() { m.reckon(e.Text) })
	case impl.ExMatch:
		m.all(e.Kids[1:], func() { m.match(e.Kids[0]) })
	case impl.ExCase:
		m.all(e.Kids, func() { m.choose(e.Clauses) })
	case impl.ExCall:
		m.all(e.Kids, func() { m.call(target{e.Mod, e.Text, len(e.Kids)}) })
	}
}

func (m *machine) reckon(sign string) {
	kids := m.pop(2)
	v, ok := impl.Reckon(sign, kids[0], kids[1])
	if !ok {
		m.stop(impl.RunFail, "badarith")
		return
	}
	m.push(v)
}

func (m *machine) match(pat impl.Exp) {
	env, ok := slowMatch(pat, m.vals[len(m.vals)-1], m.frame().env)
	if !ok {
		m.stop(impl.RunFail, "badmatch")
		return
	}
	m.frame().env = env
}

func (m *machine) choose(clauses []impl.Clause) {
	v, ahead := m.pop(1)[0], m.frame().env
	for _, c := range clauses {
		if env, ok := slowMatch(c.Pats[0], v, ahead); ok {
			m.frame().env = env
			m.do(func() { m.body(c.Body) }, func() { m.frame().env = ahead })
			return
		}
	}
	m.stop(impl.RunFail, "badcase")
}

func (m *machine) call(to target) {
	next, ok := goesTo(m.p, m.frame().home, to)
	switch {
	case to == target{"", "put", 1} && !ok:
		m.result.Out = append(m.result.Out, m.vals[len(m.vals)-1])
	case len(m.frames) == 200:
		m.stop(impl.RunFuel, "")
	case !ok:
		m.stop(impl.RunFail, "undef")
	default:
		m.enter(next)
	}
}

// enter is told a function that is there. All patterns of a clause are one tuple, and so are the values.
func (m *machine) enter(to target) {
	args := tupleVal(m.pop(to.arity)...)
	for _, mod := range m.p {
		for _, f := range mod.Funs {
			if to != (target{mod.Name, f.Name, f.Arity}) {
				continue
			}
			for _, c := range f.Clauses {
				if env, ok := slowMatch(tuple(c.Pats...), args, nil); ok {
					m.frames = append(m.frames, machineFrame{mod, env})
					m.do(func() { m.body(c.Body) }, func() { m.frames = m.frames[:len(m.frames)-1] })
					return
				}
			}
		}
	}
	m.stop(impl.RunFail, "badfun")
}
