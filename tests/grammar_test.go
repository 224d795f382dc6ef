package tests

import (
	"slices"
	"strings"
	"testing"

	"loop.example/g00377/impl"
)

// grammar is chapter 2's of a module as rules, for a reader that knows nothing else (Earley's): it follows all readings at once.
// A part is the name of rules, or a word: a sign, atom, var, num, or an atom of one text, as atom:f.
type grammar map[string][][]string

const maxRuleArity = 7

func (g grammar) add(name string, parts string) {
	g[name] = append(g[name], strings.Fields(parts))
}

// newGrammar has rules for functions of these names; a clause of another number of patterns is followed by no word at all.
func newGrammar(names []string) grammar {
	g := grammar{}
	for _, line := range strings.Split(strings.TrimSpace(`
MODULE: - atom:module ( atom ) . - atom:export ( [ ] ) . FUNS
MODULE: - atom:module ( atom ) . - atom:export ( [ REFS ] ) . FUNS
REFS: REF
REFS: REFS , REF
REF: atom / num
FUNS: FUN
FUNS: FUNS FUN
BODY: EXP
BODY: BODY , EXP
EXP: PAT = EXP
EXP: CMP
CMP: SUM
CMP: SUM == SUM
CMP: SUM < SUM
SUM: PROD
SUM: SUM + PROD
SUM: SUM - PROD
PROD: ONE
PROD: PROD * ONE
ONE: num
ONE: atom
ONE: var
ONE: _
ONE: { }
ONE: { BODY }
ONE: [ ]
ONE: [ BODY ]
ONE: [ BODY | EXP ]
ONE: atom ( )
ONE: atom ( BODY )
ONE: atom : atom ( )
ONE: atom : atom ( BODY )
ONE: case EXP of CLAUSES end
ONE: ( EXP )
CLAUSES: CLAUSE
CLAUSES: CLAUSES ; CLAUSE
CLAUSE: EXP -> BODY
PATS: PAT
PATS: PATS , PAT
PAT: num
PAT: atom
PAT: var
PAT: _
PAT: { }
PAT: { PATS }
PAT: [ ]
PAT: [ PATS ]
PAT: [ PATS | PAT ]
PAT: ( PAT )
`), "\n") {
		name, parts, _ := strings.Cut(line, ":")
		g.add(name, parts)
	}
	for arity := range maxRuleArity + 1 {
		args := strings.TrimSuffix(strings.Repeat("EXP , ", arity), ", ")
		g.add("ARGS"+impl.DecText(arity), "( "+args+" )")
	}
	for _, name := range names {
		for arity := range maxRuleArity + 1 {
			g.addFun(name, arity)
		}
	}
	return g
}

func (g grammar) addFun(name string, arity int) {
	key := name + "/" + impl.DecText(arity)
	first := "atom:" + name + " ARGS" + impl.DecText(arity) + " -> BODY"
	g.add("FUN", "MORE:"+key+" .")
	g.add("MORE:"+key, first)
	g.add("MORE:"+key, "MORE:"+key+" ; NEXT:"+key)
	g.add("NEXT:"+key, first)
	for other := range maxRuleArity + 1 {
		if other != arity {
			g.add("NEXT:"+key, "atom:"+name+" ARGS"+impl.DecText(other)+" nothing")
		}
	}
}

type ruleItem struct {
	name       string
	rule, done int
	from       int
}

type itemSet struct {
	list []ruleItem
	has  map[ruleItem]bool
}

func (s *itemSet) add(i ruleItem) {
	if !s.has[i] {
		s.has[i] = true
		s.list = append(s.list, i)
	}
}

func wordFits(part string, word impl.Token) bool {
	switch word.Kind {
	case impl.TokAtom:
		return part == "atom" || part == "atom:"+word.Text
	case impl.TokVar:
		return part == "var"
	case impl.TokNumber:
		return part == "num"
	}
	return part == word.Text
}

// grow adds all that follows from what a set holds, and answers the set behind one more word.
func (g grammar) grow(sets []*itemSet, word impl.Token, last bool) *itemSet {
	at := len(sets) - 1
	set := sets[at]
	next := &itemSet{has: map[ruleItem]bool{}}
	for k := 0; k < len(set.list); k++ {
		item := set.list[k]
		parts := g[item.name][item.rule]
		if item.done == len(parts) {
			for _, above := range sets[item.from].list {
				up := g[above.name][above.rule]
				if above.done < len(up) && up[above.done] == item.name {
					above.done++
					set.add(above)
				}
			}
			continue
		}
		part := parts[item.done]
		for rule := range g[part] {
			set.add(ruleItem{name: part, rule: rule, from: at})
		}
		if len(g[part]) == 0 && !last && wordFits(part, word) {
			item.done++
			next.add(item)
		}
	}
	return next
}

// read answers the number of the first word that does not fit, -1 where all do, and how many there are where more are lacking.
func (g grammar) read(words []impl.Token) int {
	sets := []*itemSet{{has: map[ruleItem]bool{}}}
	for rule := range g["MODULE"] {
		sets[0].add(ruleItem{name: "MODULE", rule: rule})
	}
	for i, word := range words {
		next := g.grow(sets, word, false)
		if len(next.list) == 0 {
			return i
		}
		sets = append(sets, next)
	}
	g.grow(sets, impl.Token{}, true)
	for _, item := range sets[len(words)].list {
		if item.name == "MODULE" && item.from == 0 && item.done == len(g["MODULE"][item.rule]) {
			return -1
		}
	}
	return len(words)
}

// broken is a module's words with some of them gone, doubled, in each other's place, or others.
func (m maker) broken(words []string) []string {
	words = slices.Clone(words)
	others := []string{
		"_", "->", "==", "(", ")", "{", "}", "[", "]", "|", ",", ";", ".", ":", "=", "<", "+", "-", "*", "/",
		"case", "of", "end", "a", "f", "g", "X", "1", "= X", "f (", "( X )", "; f", "{ }", "X =", "_ =", "[ X ] = 1",
	}
	for range m.Intn(3) {
		at := m.Intn(len(words))
		switch m.Intn(6) {
		case 0:
			words = slices.Delete(words, at, at+1)
		case 1:
			words[at] = pickOf(m, others)
		case 2:
			words = slices.Insert(words, at, pickOf(m, others))
		case 3:
			words = slices.Insert(words, at, words[at])
		case 4:
			to := m.Intn(len(words))
			words[at], words[to] = words[to], words[at]
		case 5:
			if m.Intn(4) == 0 {
				words = words[:at+1]
			}
		}
		if len(words) == 0 {
			break
		}
	}
	return strings.Fields(strings.Join(words, " "))
}

// smallModule is one of functions that are mostly of one name, so that clauses of others come about.
func (m maker) smallModule() impl.Module {
	made := impl.Module{Name: pickOf(m, madeAtoms)}
	for _, name := range []string{"f", "g"}[:1+m.Intn(2)] {
		made.Funs = append(made.Funs, m.function(name, m.Intn(3), 2))
	}
	return made
}

func TestMisfitsAgainstRules(t *testing.T) {
	m := newMaker(3)
	fit, lacking, wrong := 0, 0, 0
	for range 4000 {
		words := m.broken(m.freelyModule(m.smallModule()))
		// The first word stands in line 2, so that line 1 tells of what is not ModuleOk alone.
		text := "\n" + strings.Join(words, "\n")
		tokens, line := impl.Lex(text)
		if line != 0 || len(tokens) == 0 || len(tokens) > 120 {
			continue
		}
		names := []string{}
		for _, w := range tokens {
			if w.Kind == impl.TokAtom && !slices.Contains(names, w.Text) {
				names = append(names, w.Text)
			}
		}
		got, line := impl.Parse(text)
		at := newGrammar(names).read(tokens)
		switch {
		case at < 0:
			fit++
			if line != 0 && line != 1 {
				t.Errorf("%q fits; Parse tells line %d", words, line)
			}
		case at == len(tokens):
			lacking++
			if line != tokens[at-1].Line {
				t.Errorf("%q lacks words; Parse tells line %d", words, line)
			}
		default:
			wrong++
			if line != tokens[at].Line {
				t.Errorf("%q: word %d does not fit; Parse tells line %d", words, at, line)
			}
		}
		if line != 0 && !impl.Same(got, impl.Module{}) {
			t.Errorf("%q: line %d and %v", words, line, got)
		}
	}
	if fit < 500 || lacking < 100 || wrong < 500 {
		t.Error("texts of few kinds", fit, lacking, wrong)
	}
}
