package tests

import (
	"slices"
	"strconv"
	"strings"
	"testing"

	"loop.example/g00377/impl"
)

// linesOf are the words of each line that a module is shown with: its name, its exports, and each clause.
func linesOf(t *testing.T, m impl.Module) [][]impl.Token {
	t.Helper()
	lines := [][]impl.Token{}
	for text := range strings.Lines(impl.Show(m)) {
		words, line := impl.Lex(text)
		if line != 0 {
			t.Fatalf("%q is shown", text)
		}
		lines = append(lines, words)
	}
	if len(lines) < 3 {
		t.Fatalf("%+v is not shown", m)
	}
	return lines
}

// wordsText is a program as lines of words with a blank between two.
func wordsText(program [][][]impl.Token) string {
	text := strings.Builder{}
	for _, lines := range program {
		for _, words := range lines {
			for _, w := range words {
				if w.Kind == impl.TokNumber {
					text.WriteString(strconv.Itoa(w.N))
				}
				text.WriteString(w.Text + " ")
			}
			text.WriteString("\n")
		}
	}
	return text.String()
}

func programWords(t *testing.T, p []impl.Module) [][][]impl.Token {
	t.Helper()
	list := [][][]impl.Token{}
	for _, m := range p {
		list = append(list, linesOf(t, m))
	}
	return list
}

// clauseLine is the line of a clause among those that its module is shown with.
func clauseLine(m impl.Module, at impl.Place) int {
	line := 2
	for _, f := range m.Funs {
		if f.Name == at.Name && f.Arity == at.Arity {
			return line + at.Clause
		}
		line += len(f.Clauses)
	}
	return -1
}

// rewordedVar tells a program with a variable by another name, word by word.
func rewordedVar(t *testing.T, p []impl.Module, at impl.Place, from, to string) string {
	t.Helper()
	words := programWords(t, p)
	for i, m := range p {
		if m.Name != at.Mod {
			continue
		}
		line := words[i][clauseLine(m, at)]
		for j := range line {
			if line[j].Kind == impl.TokVar && line[j].Text == from {
				line[j].Text = to
			}
		}
	}
	return wordsText(words)
}

// rewordedFun tells a program with a function by another name, word by word.
func rewordedFun(t *testing.T, p []impl.Module, at impl.Place, to string) string {
	t.Helper()
	words := programWords(t, p)
	for i, m := range p {
		if m.Name == at.Mod {
			words[i][1] = rewordedExports(words[i][1], at, to)
		}
		for _, line := range words[i][2:] {
			for j, w := range line {
				if w.Kind != impl.TokAtom || w.Text != at.Name || line[j+1].Text != "(" || kidsBehind(line, j+1) != at.Arity {
					continue
				}
				mod := m.Name
				if j > 0 && line[j-1].Text == ":" {
					mod = line[j-2].Text
				}
				if mod == at.Mod {
					line[j].Text = to
				}
			}
		}
	}
	return wordsText(words)
}

// rewordedExports lays the words of the exports out anew, with a function by another name.
func rewordedExports(words []impl.Token, at impl.Place, to string) []impl.Token {
	refs := exportsOfWords(words)
	for i, ref := range refs {
		if ref == exportOf(at.Name, at.Arity) {
			refs[i] = exportOf(to, at.Arity)
		}
	}
	return wordsOfExports(refs)
}

func exportOf(name string, arity int) string { return name + " / " + strconv.Itoa(arity) }

// exportsOfWords takes the words - export ( [ NAME / N , .. ] ) . apart.
func exportsOfWords(words []impl.Token) []string {
	refs := []string{}
	for j, w := range words {
		if w.Text == "/" {
			refs = append(refs, exportOf(words[j-1].Text, words[j+1].N))
		}
	}
	return refs
}

// wordsOfExports are in order: a blank is less than all that a name is made of, and arities are single digits.
func wordsOfExports(refs []string) []impl.Token {
	slices.Sort(refs)
	made, _ := impl.Lex("-export([" + strings.Join(refs, ", ") + "]).")
	return made
}

// wordCut are some EXPs of a clause, told by the words of its line.
type wordCut struct {
	params, results string
	line, made      string
}

// wordsOf is a text of words with a blank between two.
func wordsOf(words []impl.Token) string {
	return strings.TrimSuffix(wordsText([][][]impl.Token{{words}}), " \n")
}

// cutLine cuts the line NAME ( PATTERN , .. ) -> EXP , .. and ; or . behind into EXPs, and lays it out anew.
func cutLine(line []impl.Token, from, count int, name string) wordCut {
	arrow := slices.IndexFunc(line, func(w impl.Token) bool { return w.Text == "->" })
	last := len(line) - 1
	exps := partsOfWords(line[arrow+1 : last])
	ahead := varsOfWords(line[:arrow])
	texts := []string{}
	bound, behind := []string{}, []string{}
	for i, e := range exps {
		texts = append(texts, wordsOf(e))
		switch {
		case i < from:
			ahead = append(ahead, boundOfWords(e)...)
		case i < from+count:
			bound = append(bound, boundOfWords(e)...)
		default:
			behind = append(behind, varsOfWords(e)...)
		}
	}
	params := keptNames(varsOfWords(slices.Concat(exps[from:from+count]...)), func(v string) bool { return slices.Contains(ahead, v) })
	results := keptNames(bound, func(v string) bool { return slices.Contains(behind, v) && !slices.Contains(ahead, v) })
	own := texts[from : from+count : from+count]
	called := name + " ( " + strings.Join(params, " , ") + " )"
	if len(params) == 0 {
		called = name + " ( )"
	}
	put := called
	if len(results) > 0 {
		all := strings.Join(results, " , ")
		if len(results) > 1 {
			all = "{ " + all + " }"
		}
		own, put = append(own, all), all+" = "+called
	}
	body := slices.Concat(texts[:from], []string{put}, texts[from+count:])
	return wordCut{
		params:  strings.Join(params, " "),
		results: strings.Join(results, " "),
		line:    wordsOf(line[:arrow+1]) + " " + strings.Join(body, " , ") + " " + line[last].Text,
		made:    called + " -> " + strings.Join(own, " , ") + " .",
	}
}

func keptNames(list []string, keep func(string) bool) []string {
	kept := []string{}
	for _, name := range sortedOnce(list) {
		if keep(name) {
			kept = append(kept, name)
		}
	}
	return kept
}

// partsOfWords are those between commas that stand in no brackets and in no case.
func partsOfWords(words []impl.Token) [][]impl.Token { return splitWords(words, ",") }

// splitWords are the words between some signs that stand in no brackets and in no case.
func splitWords(words []impl.Token, signs ...string) [][]impl.Token {
	list, deep := [][]impl.Token{{}}, 0
	for _, w := range words {
		switch {
		case w.Kind == impl.TokSign && strings.Contains(" ( [ { case ", " "+w.Text+" "):
			deep++
		case w.Kind == impl.TokSign && strings.Contains(" ) ] } end ", " "+w.Text+" "):
			deep--
		case slices.Contains(signs, w.Text) && deep == 0:
			list = append(list, nil)
			continue
		}
		at := len(list) - 1
		list[at] = append(list[at], w)
	}
	return list
}

func varsOfWords(words []impl.Token) []string {
	list := []string{}
	for _, w := range words {
		if w.Kind == impl.TokVar {
			list = append(list, w.Text)
		}
	}
	return list
}

// boundOfWords goes back from each = that stands in no clause to the bracket that its pattern stands in: Show lays
// brackets around each match but a body's own.
func boundOfWords(words []impl.Token) []string {
	list, clauses := []string{}, 0
	for i, w := range words {
		switch w.Text {
		case "of":
			clauses++
		case "end":
			clauses--
		case "=":
			begin := i
			for begin > 0 && words[begin-1].Text != "(" {
				begin--
			}
			if clauses == 0 {
				list = append(list, varsOfWords(words[begin:i])...)
			}
		}
	}
	return list
}

// rewordedCut tells a program with EXPs as a function of its own, word by word; and what it wants and what is wanted of it.
func rewordedCut(t *testing.T, p []impl.Module, at impl.Place, from, count int, name string) (string, wordCut) {
	t.Helper()
	text, cut := strings.Builder{}, wordCut{}
	for i, lines := range programWords(t, p) {
		if p[i].Name != at.Mod {
			text.WriteString(wordsText([][][]impl.Token{lines}))
			continue
		}
		for j, line := range lines {
			words := wordsOf(line)
			if j == clauseLine(p[i], at) {
				cut = cutLine(line, from, count, name)
				words = cut.line
			}
			text.WriteString(words + " \n")
		}
		text.WriteString(cut.made + " \n")
	}
	return text.String(), cut
}

// kidsOfWords are those of NAME ( KID , .. ), and whether the words are that.
func kidsOfWords(words []impl.Token) ([][]impl.Token, bool) {
	last := len(words) - 1
	if last < 2 || words[0].Kind != impl.TokAtom || words[1].Text != "(" || words[last].Text != ")" || len(splitWords(words, madeOps...)) > 1 {
		return nil, false
	}
	if last == 2 {
		return nil, true
	}
	return partsOfWords(words[2:last]), true
}

// bracketed is a text of words as it is shown within others.
func bracketed(words []impl.Token) string {
	if words[0].Text == "case" || len(splitWords(words, append(madeOps, "=")...)) > 1 {
		return "( " + wordsOf(words) + " )"
	}
	return wordsOf(words)
}

// calledLine is the only line of a function whose patterns are variables, no two alike; nothing where there is none.
func calledLine(m impl.Module, lines [][]impl.Token, name string, arity int) (params, body [][]impl.Token) {
	at := impl.Place{Mod: m.Name, Name: name, Arity: arity}
	if len(clausesIn([]impl.Module{m}, at)) != 1 {
		return nil, nil
	}
	line := lines[clauseLine(m, at)]
	halves := splitWords(line[:len(line)-1], "->")
	params, _ = kidsOfWords(halves[0])
	for _, pat := range params {
		if pat[0].Kind != impl.TokVar {
			return nil, nil
		}
	}
	if head := varsOfWords(halves[0]); len(sortedOnce(head)) < arity {
		return nil, nil
	}
	return params, partsOfWords(halves[1])
}

// freshWords gives each variable the name in the place of its own.
func freshWords(words []impl.Token, own, fresh []string) []impl.Token {
	made := slices.Clone(words)
	for i, w := range made {
		if w.Kind == impl.TokVar {
			made[i].Text = fresh[slices.Index(own, w.Text)]
		}
	}
	return made
}

// unusedNames goes on from I1 till there are as many that are none of these.
func unusedNames(used []string, count int) []string {
	list := []string{}
	for i := 1; len(list) < count; i++ {
		if name := "I" + strconv.Itoa(i); !slices.Contains(used, name) {
			list = append(list, name)
		}
	}
	return list
}

// rewordedCall tells a program with a function's body in the place of a call, word by word, and the code.
func rewordedCall(t *testing.T, p []impl.Module, at impl.Place, n int) (string, int) {
	t.Helper()
	words := programWords(t, p)
	home := slices.IndexFunc(p, func(m impl.Module) bool { return m.Name == at.Mod })
	line := &words[home][clauseLine(p[home], at)]
	end := len(*line) - 1
	halves := splitWords((*line)[:end], "->")
	exps := partsOfWords(halves[1])
	sides := splitWords(exps[n], "=")
	called := sides[len(sides)-1]
	kids, ok := kidsOfWords(called)
	if !ok {
		return "", impl.EdShape
	}
	params, body := calledLine(p[home], words[home], called[0].Text, len(kids))
	if body == nil {
		return "", impl.EdShape
	}
	own := sortedOnce(varsOfWords(slices.Concat(slices.Concat(params...), slices.Concat(body...))))
	fresh := unusedNames(varsOfWords(*line), len(own))
	texts := []string{}
	for i, e := range exps {
		if i != n {
			texts = append(texts, wordsOf(e))
			continue
		}
		for j, kid := range kids {
			texts = append(texts, wordsOf(freshWords(params[j], own, fresh))+" = "+wordsOf(kid))
		}
		for j, inner := range body {
			made := freshWords(inner, own, fresh)
			if j == len(body)-1 && len(sides) > 1 {
				texts = append(texts, wordsOf(sides[0])+" = "+bracketed(made))
				continue
			}
			texts = append(texts, wordsOf(made))
		}
	}
	if len(texts) > 20 || len(own) > 60 {
		return "", impl.EdFull
	}
	made, _ := impl.Lex(wordsOf(halves[0]) + " -> " + strings.Join(texts, " , ") + " " + (*line)[end].Text)
	*line = made
	return wordsText(words), impl.EdOk
}

// isLineOf tells whether a clause's line is one of that function.
func isLineOf(line []impl.Token, name string, arity int) bool {
	return line[0].Text == name && kidsBehind(line, 1) == arity
}

// movedLine has each call of at's function go to another module. In the function itself, which stands there then, a
// call of it without a module's name stays, and one of what stays behind gets the old module's name.
func movedLine(line []impl.Token, in, home impl.Module, at impl.Place, to string) []impl.Token {
	own := in.Name == at.Mod && isLineOf(line, at.Name, at.Arity)
	made := slices.Clone(line[:1])
	for j := 1; j < len(line); j++ {
		w := line[j]
		if w.Kind != impl.TokAtom || line[j+1].Text != "(" {
			made = append(made, w)
			continue
		}
		called := target{in.Name, w.Text, kidsBehind(line, j+1)}
		named := line[j-1].Text == ":"
		if named {
			called.mod = line[j-2].Text
			made = made[:len(made)-2]
		}
		isIt := called == target{at.Mod, at.Name, at.Arity}
		switch {
		case isIt && own && !named:
			called.mod = ""
		case isIt:
			called.mod = to
		case !named && !(own && isThere(home, called)):
			called.mod = ""
		}
		if called.mod != "" {
			made = append(made, impl.Token{Kind: impl.TokAtom, Text: called.mod}, impl.Token{Kind: impl.TokSign, Text: ":"})
		}
		made = append(made, w)
	}
	return made
}

// rewordedMove tells a program with a function at the end of another module, word by word.
func rewordedMove(t *testing.T, p []impl.Module, at impl.Place, to string) string {
	t.Helper()
	home := p[slices.IndexFunc(p, func(m impl.Module) bool { return m.Name == at.Mod })]
	program, gone, goal := programWords(t, p), [][]impl.Token{}, 0
	for i, lines := range program {
		kept := lines[:2:2]
		refs := exportsOfWords(lines[1])
		for _, line := range lines[2:] {
			made := movedLine(line, p[i], home, at, to)
			if p[i].Name == at.Mod && isLineOf(line, at.Name, at.Arity) {
				gone = append(gone, made)
			} else {
				kept = append(kept, made)
			}
		}
		switch p[i].Name {
		case to:
			goal = i
			refs = append(refs, exportOf(at.Name, at.Arity))
		case at.Mod:
			refs = keptNames(refs, func(ref string) bool { return ref != exportOf(at.Name, at.Arity) })
		}
		kept[1] = wordsOfExports(refs)
		program[i] = kept
	}
	program[goal] = append(program[goal], gone...)
	return wordsText(program)
}

// varNames and funNames are names that stand in the programs that are made, and such as do not.
var (
	varNames = []string{"A", "B", "C", "D", "X", "Y", "New", "N_1", "Abcdefghij"}
	funNames = []string{"f", "g", "h", "put", "z", "alone", "a0", "new", "n_1X", "zzzzzzzzzz", "a", "b"}
)

// placeIn is that of any clause of a program.
func (m maker) placeIn(p []impl.Module) impl.Place {
	mod := pickOf(m, p)
	f := pickOf(m, mod.Funs)
	return impl.Place{Mod: mod.Name, Name: f.Name, Arity: f.Arity, Clause: m.Intn(len(f.Clauses))}
}

// oddPlace is near to one of a program, or any.
func (m maker) oddPlace(p []impl.Module) impl.Place {
	at := impl.Place{Mod: pickOf(m, programModules), Name: pickOf(m, programFuns), Arity: m.Intn(3), Clause: m.Intn(2)}
	if len(p) > 0 && m.Intn(6) > 0 {
		mod := pickOf(m, p)
		at.Mod = mod.Name
		if len(mod.Funs) > 0 {
			f := pickOf(m, mod.Funs)
			at.Name, at.Arity = f.Name, f.Arity
		}
	}
	switch m.Intn(8) {
	case 0:
		at.Mod = pickOf(m, oddNames)
	case 1:
		at.Name = pickOf(m, oddNames)
	case 2:
		at.Arity = pickOf(m, oddNumbers)
	case 3:
		at.Clause = pickOf(m, oddNumbers)
	}
	return at
}

var (
	oddNames   = []string{"", " ", "_", "A", "B", "X", "Free", "a", "f", "g", "put", "case", "of", "end", "x y", "a:f", "f/1", "\x00", "\xff", "A\xff", "é", "Abcdefghijk", "abcdefghijk", "1", "a\n", "New", "new", strings.Repeat("a", 5000)}
	oddNumbers = []int{-1 << 63, -1 << 32, -2, -1, 0, 1, 2, 3, 6, 7, 20, 1 << 32, 1<<63 - 1}
)
