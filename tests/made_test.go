package tests

import (
	"fmt"
	"math/rand"
	"strings"
	"testing"

	"loop.example/g00377/impl"
)

var (
	madeAtoms   = []string{"a", "b", "ok", "f", "g", "h2", "put", "module", "export", "aB_1", "abcdefghij"}
	madeVars    = []string{"A", "B", "X", "Y", "Z1", "X_y", "Abcdefghij"}
	madeNumbers = []int{0, 1, 2, 7, 10, 999999, 999999999}
	madeOps     = []string{"==", "<", "+", "-", "*"}
)

// maker makes modules that are ModuleOk, the same ones each time.
type maker struct {
	*rand.Rand
}

func newMaker(seed int64) maker {
	return maker{rand.New(rand.NewSource(seed))}
}

func pickOf[T any](m maker, list []T) T {
	return list[m.Intn(len(list))]
}

func num(n int) impl.Exp { return impl.Exp{Kind: impl.ExNum, N: n} }

func atom(s string) impl.Exp { return impl.Exp{Kind: impl.ExAtom, Text: s} }

func variable(s string) impl.Exp { return impl.Exp{Kind: impl.ExVar, Text: s} }

func anyOne() impl.Exp { return impl.Exp{Kind: impl.ExAny} }

func none() impl.Exp { return impl.Exp{Kind: impl.ExNil} }

func tuple(kids ...impl.Exp) impl.Exp { return impl.Exp{Kind: impl.ExTuple, Kids: kids} }

func cons(head, tail impl.Exp) impl.Exp {
	return impl.Exp{Kind: impl.ExCons, Kids: []impl.Exp{head, tail}}
}

func op(sign string, a, b impl.Exp) impl.Exp {
	return impl.Exp{Kind: impl.ExOp, Text: sign, Kids: []impl.Exp{a, b}}
}

func call(mod, name string, kids ...impl.Exp) impl.Exp {
	return impl.Exp{Kind: impl.ExCall, Mod: mod, Text: name, Kids: kids}
}

func match(pat, e impl.Exp) impl.Exp {
	return impl.Exp{Kind: impl.ExMatch, Kids: []impl.Exp{pat, e}}
}

func cases(e impl.Exp, clauses ...impl.Clause) impl.Exp {
	return impl.Exp{Kind: impl.ExCase, Kids: []impl.Exp{e}, Clauses: clauses}
}

func clause(pats []impl.Exp, body ...impl.Exp) impl.Clause {
	return impl.Clause{Pats: pats, Body: body}
}

func only(e impl.Exp) []impl.Exp { return []impl.Exp{e} }

// holding is a module with one function of these clauses.
func holding(clauses ...impl.Clause) impl.Module {
	return impl.Module{Name: "m", Funs: []impl.Fun{{Name: "f", Arity: len(clauses[0].Pats), Clauses: clauses}}}
}

// bodied is a module with one function of this body alone.
func bodied(body ...impl.Exp) impl.Module {
	return holding(clause(nil, body...))
}

func (m maker) leaf(pattern bool) impl.Exp {
	switch m.Intn(5) {
	case 0:
		return num(pickOf(m, madeNumbers))
	case 1:
		return atom(pickOf(m, madeAtoms))
	case 2:
		return none()
	case 3:
		if pattern {
			return anyOne()
		}
	}
	return variable(pickOf(m, madeVars))
}

func (m maker) exps(count, deep int, pattern bool) []impl.Exp {
	list := []impl.Exp{}
	for range count {
		list = append(list, m.exp(deep, pattern))
	}
	return list
}

// exp makes one that is at most so deep.
func (m maker) exp(deep int, pattern bool) impl.Exp {
	if deep == 0 || m.Intn(4) == 0 {
		return m.leaf(pattern)
	}
	kind := m.Intn(7)
	if pattern {
		kind = m.Intn(2)
	}
	switch kind {
	case 0:
		return tuple(m.exps(1+m.Intn(3), deep-1, pattern)...)
	case 1:
		return cons(m.exp(deep-1, pattern), m.exp(deep-1, pattern))
	case 2, 3:
		return op(pickOf(m, madeOps), m.exp(deep-1, false), m.exp(deep-1, false))
	case 4:
		mod := ""
		if m.Intn(2) == 0 {
			mod = pickOf(m, madeAtoms)
		}
		return call(mod, pickOf(m, madeAtoms), m.exps(m.Intn(4), deep-1, false)...)
	case 5:
		return match(m.exp(deep-1, true), m.exp(deep-1, false))
	}
	list := []impl.Clause{}
	for range 1 + m.Intn(3) {
		list = append(list, clause(m.exps(1, deep-1, true), m.exps(1+m.Intn(2), deep-1, false)...))
	}
	return cases(m.exp(deep-1, false), list...)
}

func (m maker) function(name string, arity, deep int) impl.Fun {
	f := impl.Fun{Name: name, Arity: arity}
	for range 1 + m.Intn(3) {
		f.Clauses = append(f.Clauses, clause(m.exps(arity, 2, true), m.exps(1+m.Intn(3), deep, false)...))
	}
	return f
}

// module makes one whose Show is at most as long as a text may be.
func (m maker) module(deep int) impl.Module {
	for {
		made := impl.Module{Name: pickOf(m, madeAtoms)}
		for _, name := range []string{"a", "b", "bb", "c"} {
			for arity := range 7 {
				if m.Intn(8) == 0 {
					made.Exports = append(made.Exports, impl.Ref{Name: name, Arity: arity})
				}
			}
		}
		made.Funs = append(made.Funs, m.function(pickOf(m, madeAtoms), m.Intn(7), deep))
		for i := range m.Intn(3) {
			made.Funs = append(made.Funs, m.function([]string{"p", "q", "r"}[i], m.Intn(7), deep))
		}
		if len(impl.Show(made)) <= impl.MaxText {
			return made
		}
	}
}

// checkKinds wants so many of each kind among what was made: a test of too few tells nothing.
func checkKinds(t *testing.T, told map[string]int, least int, kinds ...string) {
	t.Helper()
	for _, kind := range kinds {
		if told[kind] < least {
			t.Error("too few of a kind", kind, told)
		}
	}
}

// plain is all that a value holds, as a text; an empty list and nil are alike in it.
func plain(value any) string { return fmt.Sprintf("%+v", value) }

// How tightly an expression holds what it is made of: a match the least.
func hold(e impl.Exp) int {
	switch {
	case e.Kind == impl.ExMatch:
		return 0
	case e.Kind != impl.ExOp:
		return 4
	case e.Text == "==" || e.Text == "<":
		return 1
	case e.Text == "*":
		return 3
	}
	return 2
}

// freely tells the words of an expression with as few brackets as there have to be, and some that need not be.
func (m maker) freely(e impl.Exp, least int) []string {
	if hold(e) < least || m.Intn(12) == 0 {
		return around("(", m.freely(e, 0), ")")
	}
	switch e.Kind {
	case impl.ExNum:
		return []string{strings.Repeat("0", m.Intn(2)*m.Intn(2)*(9-len(impl.DecText(e.N)))) + impl.DecText(e.N)}
	case impl.ExAny:
		return []string{"_"}
	case impl.ExNil:
		return []string{"[", "]"}
	case impl.ExTuple:
		return around("{", m.freelyAll(e.Kids), "}")
	case impl.ExCons:
		return m.freelyCells(e)
	case impl.ExOp:
		left, right := hold(e), hold(e)+1
		if left == 1 {
			left = 2
		}
		return joined(m.freely(e.Kids[0], left), []string{e.Text}, m.freely(e.Kids[1], right))
	case impl.ExMatch:
		return joined(m.freely(e.Kids[0], 1), []string{"="}, m.freely(e.Kids[1], 0))
	case impl.ExCall:
		words := []string{e.Text}
		if e.Mod != "" {
			words = []string{e.Mod, ":", e.Text}
		}
		return joined(words, around("(", m.freelyAll(e.Kids), ")"))
	case impl.ExCase:
		words := joined([]string{"case"}, m.freely(e.Kids[0], 0), []string{"of"})
		for i, c := range e.Clauses {
			if i > 0 {
				words = append(words, ";")
			}
			words = joined(words, m.freely(c.Pats[0], 0), []string{"->"}, m.freelyAll(c.Body))
		}
		return append(words, "end")
	}
	return []string{e.Text}
}

func (m maker) freelyCells(e impl.Exp) []string {
	heads := [][]string{}
	for e.Kind == impl.ExCons && (len(heads) == 0 || m.Intn(3) > 0) {
		heads = append(heads, m.freely(e.Kids[0], 0))
		e = e.Kids[1]
	}
	words := []string{"["}
	for i, head := range heads {
		if i > 0 {
			words = append(words, ",")
		}
		words = append(words, head...)
	}
	if e.Kind != impl.ExNil || m.Intn(3) == 0 {
		words = joined(words, []string{"|"}, m.freely(e, 0))
	}
	return append(words, "]")
}

func (m maker) freelyAll(list []impl.Exp) []string {
	words := []string{}
	for i, e := range list {
		if i > 0 {
			words = append(words, ",")
		}
		words = append(words, m.freely(e, 0)...)
	}
	return words
}

func joined(parts ...[]string) []string {
	all := []string{}
	for _, p := range parts {
		all = append(all, p...)
	}
	return all
}

func around(open string, words []string, closed string) []string {
	return joined([]string{open}, words, []string{closed})
}

// freelyModule tells the words of a module.
func (m maker) freelyModule(of impl.Module) []string {
	words := []string{"-", "module", "(", of.Name, ")", ".", "-", "export", "(", "["}
	for i, ref := range of.Exports {
		if i > 0 {
			words = append(words, ",")
		}
		words = append(words, ref.Name, "/", impl.DecText(ref.Arity))
	}
	words = append(words, "]", ")", ".")
	for _, f := range of.Funs {
		for i, c := range f.Clauses {
			if i > 0 {
				words = append(words, ";")
			}
			words = joined(words, []string{f.Name}, around("(", m.freelyAll(c.Pats), ")"), []string{"->"}, m.freelyAll(c.Body))
		}
		words = append(words, ".")
	}
	return words
}

// spaced lays words out as a text, with gaps of many kinds.
func (m maker) spaced(words []string) string {
	gaps := []string{" ", "  ", "\n", " \n ", "% a remark ! -> _x\n"}
	text := strings.Builder{}
	for _, w := range words {
		text.WriteString(w)
		if m.Intn(3) > 0 {
			text.WriteString(" ")
		} else {
			text.WriteString(pickOf(m, gaps))
		}
	}
	return text.String()
}
