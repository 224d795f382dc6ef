package tests

import "loop.example/g00377/impl"

var (
	valueNumbers = []int{-1, 0, 1, 2, 1 << 62}
	valueAtoms   = []string{"a", "b", "ab", "true"}
	boundNames   = []string{"X", "Y", "Z"}
)

func numVal(n int) impl.Val { return impl.Val{Kind: impl.VNum, N: n} }

func atomVal(s string) impl.Val { return impl.Val{Kind: impl.VAtom, Text: s} }

func tupleVal(kids ...impl.Val) impl.Val { return impl.Val{Kind: impl.VTuple, Kids: kids} }

func nilVal() impl.Val { return impl.Val{Kind: impl.VNil} }

func consVal(head, tail impl.Val) impl.Val {
	return impl.Val{Kind: impl.VCons, Kids: []impl.Val{head, tail}}
}

func bind(name string, v impl.Val) impl.Bind { return impl.Bind{Name: name, Val: v} }

// val makes one that is ValOk, and at most so deep.
func (m maker) val(deep int) impl.Val {
	kind := m.Intn(5)
	if deep == 0 {
		kind = m.Intn(3)
	}
	switch kind {
	case 0:
		return numVal(pickOf(m, valueNumbers))
	case 1:
		return atomVal(pickOf(m, valueAtoms))
	case 2:
		return nilVal()
	case 3:
		return consVal(m.val(deep-1), m.val(deep-1))
	}
	return tupleVal(m.vals(1+m.Intn(3), deep-1)...)
}

func (m maker) vals(count, deep int) []impl.Val {
	list := []impl.Val{}
	for range count {
		list = append(list, m.val(deep))
	}
	return list
}

// oddVal makes any value, most of which are not ValOk.
func (m maker) oddVal(deep int) impl.Val {
	v := impl.Val{Kind: m.Intn(7) - 1, N: m.Intn(3) - 1, Text: pickOf(m, []string{"", "", "a", "B"})}
	for range m.Intn(4) {
		if deep > 0 {
			v.Kids = append(v.Kids, m.oddVal(deep-1))
		}
	}
	return v
}

// patternOf makes a pattern that a value fits by its parts, but now and then; names stand in it again and again.
func (m maker) patternOf(v impl.Val) impl.Exp {
	switch m.Intn(8) {
	case 0, 1:
		return variable(pickOf(m, boundNames))
	case 2:
		return anyOne()
	case 3:
		if m.Intn(6) == 0 {
			return m.exp(1, m.Intn(3) > 0)
		}
	}
	switch v.Kind {
	case impl.VNum:
		return num(v.N)
	case impl.VAtom:
		return atom(v.Text)
	case impl.VNil:
		return none()
	}
	e := impl.Exp{Kind: impl.ExTuple}
	if v.Kind == impl.VCons {
		e.Kind = impl.ExCons
	}
	for _, kid := range v.Kids {
		e.Kids = append(e.Kids, m.patternOf(kid))
	}
	return e
}

// binds makes names bound, now and then one name twice, and often to what stands in a value.
func (m maker) binds(near impl.Val) []impl.Bind {
	list := []impl.Bind{}
	for range m.Intn(3) {
		v := m.val(1)
		if m.Intn(4) > 0 {
			v = m.within(near)
		}
		list = append(list, bind(pickOf(m, append(boundNames, "W")), v))
	}
	return list
}

func (m maker) within(v impl.Val) impl.Val {
	for len(v.Kids) > 0 && m.Intn(4) > 0 {
		v = pickOf(m, v.Kids)
	}
	return v
}
