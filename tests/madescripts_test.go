package tests

import (
	"regexp"
	"slices"
	"strconv"
	"strings"

	"loop.example/g00377/impl"
)

// tight is a value's text as a script has it, told by the second telling of values.
func tight(v impl.Val) string {
	return strings.ReplaceAll(slowText(v), " ", "")
}

var (
	valueWord   = regexp.MustCompile(`\A(\[\]|[\[\]{}|,]|-?[0-9]+|[a-z][A-Za-z0-9_]*)`)
	tightNumber = regexp.MustCompile(`\A(0|-?[1-9][0-9]{0,8})\z`)
	openBy      = map[string]int{"{": impl.VTuple, "[": impl.VCons}
	partedBy    = map[string]int{",": impl.VTuple, "|": impl.VCons}
	closedBy    = map[string]int{"}": impl.VTuple, "]": impl.VCons}
)

// begunVal is a tuple or a list cell whose bracket is open.
type begunVal struct {
	kind int
	kids []impl.Val
}

func (b begunVal) isWhole() bool {
	return b.kind == impl.VCons && len(b.kids) == 2 || b.kind == impl.VTuple && len(b.kids) <= 20
}

// slowReadVal reads word by word, with what is open in a row.
func slowReadVal(s string) (impl.Val, bool) {
	open, wanted := []begunVal{{kind: -1}}, true
	for s != "" {
		word := valueWord.FindString(s)
		if word == "" {
			return impl.Val{}, false
		}
		s = s[len(word):]
		top := &open[len(open)-1]
		if kind, opens := openBy[word]; opens {
			if !wanted || len(open) == 61 {
				return impl.Val{}, false
			}
			open = append(open, begunVal{kind: kind})
			continue
		}
		if kind, parts := partedBy[word]; parts {
			if wanted || top.kind != kind {
				return impl.Val{}, false
			}
			wanted = true
			continue
		}
		v := impl.Val{Kind: impl.VNil}
		switch kind, closes := closedBy[word]; {
		case closes:
			if wanted || top.kind != kind || !top.isWhole() {
				return impl.Val{}, false
			}
			v = impl.Val{Kind: kind, Kids: top.kids}
			open = open[:len(open)-1]
			top = &open[len(open)-1]
			wanted = true
		case word[0] >= 'a':
			v = atomVal(word)
		case word != "[]":
			n, _ := strconv.Atoi(word)
			v = numVal(n)
		}
		if v.Kind == impl.VAtom && !impl.AtomOk(word) || v.Kind == impl.VNum && !tightNumber.MatchString(word) || !wanted {
			return impl.Val{}, false
		}
		top.kids, wanted = append(top.kids, v), false
	}
	if len(open) > 1 || len(open[0].kids) != 1 || wanted {
		return impl.Val{}, false
	}
	return open[0].kids[0], true
}

// slowDesk is a second telling of a script: by patterns of whole lines, with a history in the place of a session.
type slowDesk struct {
	mods map[string]impl.Module
	open *history
}

// scriptForms are the lines of a script: W is any word (or none, between two blanks), N a number, V any words of values.
var scriptForms = map[string]*regexp.Regexp{}

func formOf(form string) *regexp.Regexp {
	known, ok := scriptForms[form]
	if !ok {
		parts := strings.NewReplacer("W", `([^ ]*)`, "N", `(0|[1-9][0-9]{0,5})`, " V", `((?: [^ ]+)*)`)
		known = regexp.MustCompile(`(?s)\A` + parts.Replace(form) + `\z`)
		scriptForms[form] = known
	}
	return known
}

var commandForms = []string{"var W W N N W W", "fun W W N W", "cut W W N N N N W", "into W W N N N", "move W W N W", "prune", "undo", "redo"}

func (d *slowDesk) modules() []impl.Module {
	list := []impl.Module{}
	for _, m := range d.mods {
		list = append(list, m)
	}
	slices.SortFunc(list, func(a, b impl.Module) int { return strings.Compare(a.Name, b.Name) })
	return list
}

func (d *slowDesk) program() []impl.Module {
	if d.open == nil {
		return d.modules()
	}
	return d.open.programs[d.open.at]
}

func (d *slowDesk) lay(text string) string {
	m, line := impl.Parse(text)
	if line > 0 {
		return "line " + strconv.Itoa(line)
	}
	if _, there := d.mods[m.Name]; !there && len(d.mods) == 10 {
		return "full"
	}
	d.mods[m.Name], d.open = m, nil
	return "ok"
}

// commandIn is what a line commands, its numbers in the order in which they stand.
func commandIn(line string) (impl.Command, bool) {
	for kind, form := range commandForms {
		found := formOf(form).FindStringSubmatch(line)
		if found == nil {
			continue
		}
		c, numbers, names := impl.Command{Kind: kind}, []int{}, []string{}
		for i, part := range strings.Fields(form)[1:] {
			if part == "N" {
				n, _ := strconv.Atoi(found[i+1])
				numbers = append(numbers, n)
			} else {
				names = append(names, found[i+1])
			}
		}
		for i, to := range []*int{&c.At.Arity, &c.At.Clause, &c.From, &c.Count}[:len(numbers)] {
			*to = numbers[i]
		}
		for i, to := range []*string{&c.At.Mod, &c.At.Name, &c.New}[:min(3, len(names))] {
			*to = names[i]
		}
		if kind == impl.CmRenameVar {
			c.Old, c.New = names[2], names[3]
		}
		return c, true
	}
	return impl.Command{}, false
}

func dashed(texts []string, between string) string {
	if len(texts) == 0 {
		return "-"
	}
	return strings.Join(texts, between)
}

func (d *slowDesk) line(line string) string {
	if c, ok := commandIn(line); ok {
		if d.open == nil {
			return "none"
		}
		next, code := d.open.do(c)
		d.open = &next
		return impl.CodeText(code)
	}
	if found := formOf("show W").FindStringSubmatch(line); found != nil {
		for _, m := range d.program() {
			if m.Name == found[1] {
				return strings.Join(strings.Split(impl.Show(m), "\n"), ";")
			}
		}
		return "none"
	}
	if found := formOf("run W W V").FindStringSubmatch(line); found != nil {
		args := []impl.Val{}
		for _, word := range strings.Split(found[3], " ")[1:] {
			v, ok := slowReadVal(word)
			if !ok {
				return "what"
			}
			args = append(args, v)
		}
		return impl.ResultText(impl.Run(d.program(), found[1], found[2], args, 2000))
	}
	return d.alone(line)
}

// alone are the lines of one word.
func (d *slowDesk) alone(line string) string {
	texts := []string{}
	switch line {
	case "check":
		for _, q := range impl.Check(d.modules()) {
			texts = append(texts, q.Mod+":"+q.Name+"/"+strconv.Itoa(q.Arity)+" "+q.Code)
		}
		return dashed(texts, ";")
	case "open":
		if !impl.Good(d.modules()) {
			return "bad"
		}
		d.open = &history{programs: [][]impl.Module{d.modules()}}
		return "ok"
	case "past":
		if d.open == nil {
			return "none"
		}
		return strconv.Itoa(d.open.at) + " " + strconv.Itoa(len(d.open.commands)-d.open.at)
	case "calls":
		for _, edge := range impl.Graph(d.program()) {
			texts = append(texts, edge[0]+">"+edge[1])
		}
		return dashed(texts, " ")
	case "unused":
		return dashed(impl.Unused(d.program()), " ")
	}
	return "what"
}

// slowScript tells a script with the second desk.
func slowScript(text string) string {
	if text != "" && text[len(text)-1] != '\n' || len(text) > 12000 || len(strings.Split(text, "\n")) > 201 {
		return "long\n"
	}
	d := slowDesk{mods: map[string]impl.Module{}}
	told := ""
	for text != "" {
		line, rest, _ := strings.Cut(text, "\n")
		if line != "module" {
			told, text = told+d.line(line)+"\n", rest
			continue
		}
		if end := strings.Index("\n"+rest, "\n--\n"); end >= 0 {
			told, text = told+d.lay(rest[:end])+"\n", rest[end+3:]
			continue
		}
		told, text = told+d.lay(rest)+"\n", ""
	}
	return told
}

// commandLine is a command as a script has it.
func commandLine(c impl.Command) string {
	at := " " + c.At.Mod + " " + c.At.Name + " " + strconv.Itoa(c.At.Arity)
	clause := at + " " + strconv.Itoa(c.At.Clause)
	from := clause + " " + strconv.Itoa(c.From)
	switch c.Kind {
	case impl.CmRenameVar:
		return "var" + clause + " " + c.Old + " " + c.New
	case impl.CmRenameFun:
		return "fun" + at + " " + c.New
	case impl.CmExtract:
		return "cut" + from + " " + strconv.Itoa(c.Count) + " " + c.New
	case impl.CmInline:
		return "into" + from
	case impl.CmMove:
		return "move" + at + " " + c.New
	case impl.CmPrune:
		return "prune"
	case impl.CmUndo:
		return "undo"
	}
	return "redo"
}

// block is a module as a script has it.
func block(text string) string { return "module\n" + text + "--\n" }

// runLine calls a function that a program exports, most of the time with as many values.
func (m maker) runLine(p []impl.Module) string {
	mod, name, args := "a", "f", m.vals(m.Intn(3), 2)
	if home := pickOf(m, p); len(home.Exports) > 0 {
		ref := pickOf(m, home.Exports)
		mod, name, args = home.Name, ref.Name, m.vals(max(0, ref.Arity+m.Intn(12)/10-m.Intn(12)/10), 2)
	}
	line := "run " + mod + " " + name
	for _, v := range args {
		line += " " + tight(v)
	}
	return line
}

// scriptLine is any line but that of a module; the session is the one that most of the lines were told to.
func (m maker) scriptLine(s *impl.Session) string {
	alone := []string{"check", "open", "past", "calls", "unused", "undo", "redo", "prune"}
	if len(s.Now) == 0 {
		return pickOf(m, alone)
	}
	var line string
	switch m.Intn(12) {
	case 0, 1:
		line = pickOf(m, alone)
	case 2, 3:
		line = m.runLine(s.Now)
	case 4:
		line = "show " + pickOf(m, s.Now).Name
	case 5:
		line = commandLine(m.oddCommand(s.Now))
	default:
		c := m.command(s.Now)
		*s, _ = impl.Do(*s, c)
		line = commandLine(c)
	}
	if m.Intn(10) == 0 {
		line = m.mangled(line)
	}
	return line
}

// mangled is a line with something that it should not have, or without something that it should.
func (m maker) mangled(line string) string {
	words := strings.Split(line, " ")
	at := m.Intn(len(words))
	switch m.Intn(10) {
	case 0:
		words[at] = ""
	case 1:
		words[at] += " "
	case 2:
		words = slices.Delete(words, at, at+1)
	case 3:
		words = append(words, pickOf(m, []string{"", "1", "a", "x y", "["}))
	case 4:
		words[at] = strings.ToUpper(words[at])
	case 5:
		words[at] = pickOf(m, []string{"0", "-", "+", "\x00", "\t"}) + words[at]
	case 6:
		words[at] += pickOf(m, []string{"0", "\r", "\xff", "é", ",", "]"})
	case 7:
		words[at] = pickOf(m, oddNames)
	case 8:
		words[at] = strconv.Itoa(pickOf(m, []int{-1, 0, 1, 7, 999999, 1000000}))
	case 9:
		return pickOf(m, []string{"", " ", "--", "module ", " module", "-", "%", "% check", "ok", "long", line + line})
	}
	return strings.Join(words, " ")
}

// laid is a module's text: most of the time as it is shown, and ended.
func (m maker) laid(mod impl.Module) string {
	text := impl.Show(mod)
	switch m.Intn(30) {
	case 0, 1:
		text = m.spaced(m.freelyModule(mod)) + "\n"
	case 2:
		text = m.spaced(m.broken(m.freelyModule(mod))) + "\n"
	case 3:
		text = strings.Replace(text, "\n", "\n--", 1)
	case 4:
		text = strings.Replace(text, "\n", "\n\n-- \n", 1)
	}
	if m.Intn(40) == 0 {
		return "module\n" + text
	}
	return block(text)
}

// script is one that is told with some sense most of the time: a part for each line, a module's with its text.
func (m maker) script(turn int) []string {
	p := [](func() []impl.Module){m.goodRunnable, m.cuttable, m.inlinable, m.goodProgram, m.runnable}[turn%5]()
	s, parts := impl.Session{}, []string{}
	for i, mod := range m.shuffled(p) {
		if m.Intn(8) == 0 {
			parts = append(parts, m.scriptLine(&impl.Session{Now: p[:i]})+"\n")
		}
		parts = append(parts, m.laid(mod))
	}
	parts = append(parts, pickOf(m, []string{"check\n", "calls\n", "unused\n", "past\n"}), "open\n")
	s.Now = p
	for range 12 + m.Intn(20) {
		if len(p) > 0 && m.Intn(25) == 0 {
			parts = append(parts, m.laid(pickOf(m, p)))
			if m.Intn(4) > 0 {
				parts, s = append(parts, "open\n"), impl.Session{Now: p}
			}
			continue
		}
		parts = append(parts, m.scriptLine(&s)+"\n")
	}
	return parts
}
