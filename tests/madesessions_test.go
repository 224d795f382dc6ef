package tests

import (
	"slices"
	"strconv"
	"strings"
	"testing"

	"loop.example/g00377/impl"
)

// changeKinds are the kinds that Change knows, and kindNames what a test tells them by.
var (
	changeKinds = []int{impl.CmRenameVar, impl.CmRenameFun, impl.CmExtract, impl.CmInline, impl.CmMove, impl.CmPrune}
	kindNames   = []string{"var", "fun", "cut", "into", "move", "prune", "undo", "redo"}
)

// asCommand takes commands as short texts: KIND, and what it wants in the order of a Command's fields, a place as
// module:name/arity (with a clause behind a dot).
func asCommand(t *testing.T, text string) impl.Command {
	t.Helper()
	words := strings.Fields(text)
	c := impl.Command{Kind: slices.Index(kindNames, words[0])}
	rest := words[1:]
	if len(rest) > 0 {
		c.At, rest = asPlace(t, rest[0]), rest[1:]
	}
	wants := map[int]int{impl.CmRenameVar: 2, impl.CmRenameFun: 1, impl.CmExtract: 3, impl.CmInline: 1, impl.CmMove: 1}[c.Kind]
	if c.Kind < 0 || len(rest) != wants || len(words) == 1 != (c.Kind >= impl.CmPrune) {
		t.Fatal("no command", text)
	}
	switch c.Kind {
	case impl.CmRenameVar:
		c.Old, c.New = rest[0], rest[1]
	case impl.CmExtract:
		c.From, c.Count, c.New = asNumber(t, rest[0]), asNumber(t, rest[1]), rest[2]
	case impl.CmInline:
		c.From = asNumber(t, rest[0])
	case impl.CmRenameFun, impl.CmMove:
		c.New = rest[0]
	}
	return c
}

func asCommands(t *testing.T, texts ...string) []impl.Command {
	t.Helper()
	list := []impl.Command{}
	for _, text := range texts {
		list = append(list, asCommand(t, text))
	}
	return list
}

func asNumber(t *testing.T, text string) int {
	t.Helper()
	n, err := strconv.Atoi(text)
	if err != nil {
		t.Fatal(err)
	}
	return n
}

func asPlace(t *testing.T, text string) impl.Place {
	t.Helper()
	mod, rest, _ := strings.Cut(text, ":")
	name, rest, ok := strings.Cut(rest, "/")
	arity, clause, further := strings.Cut(rest, ".")
	at := impl.Place{Mod: mod, Name: name}
	if !ok {
		t.Fatal("no place", text)
	}
	at.Arity = asNumber(t, arity)
	if further {
		at.Clause = asNumber(t, clause)
	}
	return at
}

// slowChange is each kind by the function that makes it.
func slowChange(p []impl.Module, c impl.Command) ([]impl.Module, int) {
	if c.Kind == impl.CmRenameVar {
		return impl.RenameVar(p, c.At, c.Old, c.New)
	}
	if c.Kind == impl.CmRenameFun {
		return impl.RenameFun(p, c.At, c.New)
	}
	if c.Kind == impl.CmExtract {
		return impl.Extract(p, c.At, c.From, c.Count, c.New)
	}
	if c.Kind == impl.CmInline {
		return impl.Inline(p, c.At, c.From)
	}
	if c.Kind == impl.CmMove {
		return impl.Move(p, c.At, c.New)
	}
	if c.Kind != impl.CmPrune {
		return p, impl.EdNone
	}
	if !impl.Good(p) {
		return p, impl.EdBad
	}
	made, gone := impl.Prune(p), 0
	for i := range p {
		gone += len(p[i].Funs) - len(made[i].Funs)
	}
	if gone == 0 {
		return p, impl.EdShape
	}
	return made, impl.EdOk
}

// history is a second telling of a session: all its programs in a row, the commands between them, and where it stands.
type history struct {
	programs [][]impl.Module
	commands []impl.Command
	at       int
}

func (h history) do(c impl.Command) (history, int) {
	taken := len(h.commands) - h.at
	switch {
	case c.Kind == impl.CmUndo && (h.at == 0 || taken == impl.MaxPast):
		return h, impl.EdNone
	case c.Kind == impl.CmUndo:
		h.at--
		return h, impl.EdOk
	case c.Kind == impl.CmRedo && taken == 0:
		return h, impl.EdNone
	case c.Kind == impl.CmRedo:
		h.at++
	default:
		made, code := slowChange(h.programs[h.at], c)
		if code != impl.EdOk {
			return h, code
		}
		h.programs = append(slices.Clone(h.programs[:h.at+1]), made)
		h.commands = append(slices.Clone(h.commands[:h.at]), c)
		h.at++
	}
	if h.at > impl.MaxPast {
		h.programs, h.commands, h.at = h.programs[1:], h.commands[1:], h.at-1
	}
	return h, impl.EdOk
}

// session is the history as the document lays it out.
func (h history) session() impl.Session {
	s := impl.Session{Now: h.programs[h.at], Past: h.programs[:h.at], Done: h.commands[:h.at]}
	for i := len(h.commands) - 1; i >= h.at; i-- {
		s.Next = append(s.Next, h.programs[i+1])
		s.Again = append(s.Again, h.commands[i])
	}
	return s
}

func sameSession(a, b impl.Session) bool {
	return sameProgram(a.Now, b.Now) && slices.EqualFunc(a.Past, b.Past, sameProgram) && slices.EqualFunc(a.Next, b.Next, sameProgram) && slices.Equal(a.Done, b.Done) && slices.Equal(a.Again, b.Again)
}

// sessionText tells a session for a failure's message.
func sessionText(s impl.Session) string {
	return strconv.Itoa(len(s.Past)) + " past by " + plain(s.Done) + ", " + strconv.Itoa(len(s.Next)) + " next by " + plain(s.Again) + ", now\n" + programTextOf(s.Now)
}

// checkDo wants what the history tells of a command, beside it; and of a refused one the session as it was.
func checkDo(t *testing.T, s impl.Session, h history, c impl.Command) (impl.Session, history, int) {
	t.Helper()
	got, code := impl.Do(s, c)
	next, want := h.do(c)
	if code != want || !sameSession(got, next.session()) {
		t.Fatalf("%s\nby %+v is (%d)\n%s\nnot (%d)\n%s", sessionText(s), c, code, sessionText(got), want, sessionText(next.session()))
	}
	return got, next, code
}

// begun opens a session on a program, with its history beside.
func begun(t *testing.T, p []impl.Module) (impl.Session, history) {
	t.Helper()
	s, ok := impl.Open(p)
	if !ok || !sameSession(s, impl.Session{Now: p}) {
		t.Fatalf("%sis not opened: %s", programTextOf(p), sessionText(s))
	}
	return s, history{programs: [][]impl.Module{p}}
}

// commandOf is one of a kind for a program that has a module: most of the time what it asks for is there.
func (m maker) commandOf(p []impl.Module, kind int) impl.Command {
	c := impl.Command{Kind: kind}
	switch kind {
	case impl.CmRenameVar:
		c.At, c.New = m.placeIn(p), pickOf(m, varNames)
		c.Old = pickOf(m, append(impl.VarsAt(p, c.At), "X"))
	case impl.CmRenameFun:
		c.At, c.New = m.placeIn(p), pickOf(m, funNames)
	case impl.CmExtract:
		c.At, c.New = m.cutPlace(p), pickOf(m, funNames)
		c.From, c.Count = m.cutOf(clauseIn(p, c.At))
	case impl.CmInline:
		c.At, c.From = m.callPlace(p)
	case impl.CmMove:
		c.At, c.New = m.placeIn(p), pickOf(m, p).Name
	}
	return c
}

// command is of any kind: every third one takes something back, or makes it again.
func (m maker) command(p []impl.Module) impl.Command {
	switch m.Intn(9) {
	case 0, 1:
		return impl.Command{Kind: impl.CmUndo}
	case 2:
		return impl.Command{Kind: impl.CmRedo}
	case 3:
		return m.commandOf(p, impl.CmInline)
	}
	return m.commandOf(p, pickOf(m, changeKinds))
}

// oddCommand is of any kind, place, numbers and names.
func (m maker) oddCommand(p []impl.Module) impl.Command {
	c := impl.Command{Kind: m.Intn(9) - 1, At: m.oddPlace(p), From: m.Intn(3), Count: m.Intn(3), Old: pickOf(m, oddNames), New: pickOf(m, oddNames)}
	if vars := impl.VarsAt(p, c.At); len(vars) > 0 && m.Intn(2) == 0 {
		c.Old = pickOf(m, vars)
	}
	if m.Intn(2) == 0 {
		c.New = pickOf(m, [][]string{varNames, funNames, programModules}[m.Intn(3)])
	}
	switch m.Intn(8) {
	case 0:
		c.Kind = pickOf(m, oddNumbers)
	case 1:
		c.From = pickOf(m, oddNumbers)
	case 2:
		c.Count = pickOf(m, oddNumbers)
	}
	return c
}
