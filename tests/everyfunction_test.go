package tests

import (
	"go/ast"
	"go/parser"
	"go/token"
	"maps"
	"path/filepath"
	"reflect"
	"slices"
	"strings"
	"testing"

	"loop.example/g00377/impl"
)

// everyFunction are all that the document names.
var everyFunction = map[string]any{
	"AtomOk": impl.AtomOk, "VarOk": impl.VarOk, "Lex": impl.Lex, "DecText": impl.DecText, "ReadDec": impl.ReadDec, "Words": impl.Words,
	"Parse": impl.Parse, "Show": impl.Show, "ModuleOk": impl.ModuleOk, "Same": impl.Same,
	"ValOk": impl.ValOk, "CompareVal": impl.CompareVal, "ValText": impl.ValText, "Match": impl.Match, "Lookup": impl.Lookup, "Reckon": impl.Reckon,
	"Bound": impl.Bound, "Free": impl.Free, "Vars": impl.Vars, "ClauseFree": impl.ClauseFree, "Loose": impl.Loose, "Calls": impl.Calls, "Puts": impl.Puts,
	"ProgramOk": impl.ProgramOk, "Check": impl.Check, "Good": impl.Good, "ProblemText": impl.ProblemText, "Graph": impl.Graph, "Reached": impl.Reached,
	"Run": impl.Run, "SameResult": impl.SameResult, "ResultText": impl.ResultText,
	"RenameVar": impl.RenameVar, "RenameFun": impl.RenameFun, "VarsAt": impl.VarsAt, "CodeText": impl.CodeText,
	"Params": impl.Params, "Results": impl.Results, "Extract": impl.Extract, "Fresh": impl.Fresh, "Inline": impl.Inline,
	"Move": impl.Move, "Unused": impl.Unused, "Prune": impl.Prune, "Where": impl.Where,
	"Open": impl.Open, "SessionOk": impl.SessionOk, "Change": impl.Change, "Do": impl.Do, "DoAll": impl.DoAll, "Maps": impl.Maps,
	"ReadVal": impl.ReadVal, "Desk": impl.Desk,
}

// The program has these functions for others to call, and no more.
func TestEveryFunctionStands(t *testing.T) {
	files, err := filepath.Glob(filepath.Join("..", "impl", "*.go"))
	if err != nil || len(files) != 12 {
		t.Fatal(files, err)
	}
	names := []string{}
	for _, file := range files {
		read, err := parser.ParseFile(token.NewFileSet(), file, nil, parser.SkipObjectResolution)
		if err != nil {
			t.Fatal(err)
		}
		for _, d := range read.Decls {
			if f, ok := d.(*ast.FuncDecl); ok && f.Recv == nil && f.Name.IsExported() {
				names = append(names, f.Name.Name)
			}
		}
	}
	slices.Sort(names)
	if want := slices.Sorted(maps.Keys(everyFunction)); !slices.Equal(names, want) {
		t.Error(names, "are not", want)
	}
}

// argument makes any one of a type; those of one call are near to one program.
func (m maker) argument(kind reflect.Type, p []impl.Module) any {
	switch kind {
	case reflect.TypeFor[int]():
		return pickOf(m, append(oddNumbers, m.Intn(4), m.Intn(4), m.Intn(1000)))
	case reflect.TypeFor[string]():
		return m.anyText(p)
	case reflect.TypeFor[[]string]():
		return firstNames(0, m.Intn(5))
	case reflect.TypeFor[impl.Exp]():
		return m.anyExp()
	case reflect.TypeFor[impl.Clause]():
		return m.anyClause(p)
	case reflect.TypeFor[impl.Module]():
		return pickOf(m, append(slices.Clone(p), m.oddModule()))
	case reflect.TypeFor[[]impl.Module]():
		return p
	case reflect.TypeFor[impl.Val]():
		return pickOf(m, []impl.Val{m.val(3), m.oddVal(3)})
	case reflect.TypeFor[[]impl.Val]():
		return append(m.vals(m.Intn(3), 2), []impl.Val{m.oddVal(2)}[m.Intn(4)/3:]...)
	case reflect.TypeFor[[]impl.Bind]():
		return m.binds(m.oddVal(2))
	case reflect.TypeFor[impl.Problem]():
		return impl.Problem{Mod: pickOf(m, oddNames), Name: pickOf(m, oddNames), Arity: pickOf(m, oddNumbers), Code: pickOf(m, oddNames)}
	case reflect.TypeFor[impl.Result]():
		return impl.Result{Code: m.Intn(6) - 1, Why: pickOf(m, oddNames), Val: m.oddVal(2), Out: m.vals(m.Intn(3), 2)}
	case reflect.TypeFor[impl.Place]():
		return m.oddPlace(p)
	case reflect.TypeFor[impl.Command]():
		return m.oddCommand(p)
	case reflect.TypeFor[[]impl.Command]():
		list := []impl.Command{}
		for range m.Intn(4) {
			list = append(list, m.oddCommand(p))
		}
		return list
	case reflect.TypeFor[impl.Session]():
		return m.anySession(p)
	}
	return nil
}

func (m maker) anyText(p []impl.Module) string {
	switch m.Intn(7) {
	case 0:
		return pickOf(m, lexTexts)
	case 1:
		return strings.Join(m.script(m.Intn(5)), "")
	case 2:
		return tight(m.oddVal(3))
	case 3:
		return programTextOf(p)
	case 4:
		return pickOf(m, append(slices.Clone(funNames), "+", "==", "<", "*", "-"))
	case 5:
		return pickOf(m, varNames)
	}
	return pickOf(m, oddNames)
}

func (m maker) anyClause(p []impl.Module) impl.Clause {
	if at := m.oddPlace(p); len(clauseIn(p, at).Body) > 0 {
		return clauseIn(p, at)
	}
	return m.oddClause(2)
}

func (m maker) anySession(p []impl.Module) impl.Session {
	s := m.oddSession(m.Intn(9))
	if opened, ok := impl.Open(p); ok {
		s = opened
		for range m.Intn(4) {
			s, _ = impl.Do(s, m.oddCommand(p))
		}
	}
	return s
}

// answersOf calls a function, and fails where it panics.
func answersOf(t *testing.T, name string, arguments []reflect.Value) []reflect.Value {
	t.Helper()
	defer func() {
		if stop := recover(); stop != nil {
			t.Fatalf("%s of %.3000v panics: %v", name, arguments, stop)
		}
	}()
	return reflect.ValueOf(everyFunction[name]).Call(arguments)
}

func plainAll(list []reflect.Value) string {
	texts := []string{}
	for _, v := range list {
		texts = append(texts, plain(v.Interface()))
	}
	return strings.Join(texts, " ; ")
}

// P13: every function answers at any arguments, the same each time and in new memory, and writes into none, nor into
// the room behind their lists.
func TestEveryFunctionAnswers(t *testing.T) {
	m := newMaker(131)
	for _, name := range slices.Sorted(maps.Keys(everyFunction)) {
		kind := reflect.TypeOf(everyFunction[name])
		for i := range 90 {
			p := m.anyProgram(i)
			if i%3 == 0 {
				p = m.goodRunnable()
			}
			given, before := []reflect.Value{}, []reflect.Value{}
			for j := range kind.NumIn() {
				a := m.argument(kind.In(j), p)
				if a == nil {
					t.Fatal("no argument of", kind.In(j))
				}
				given = append(given, copyDeep(reflect.ValueOf(a), func(v reflect.Value) (int, int) { return v.Len(), v.Len() + spareRoom }))
				before = append(before, copyDeep(given[j], func(v reflect.Value) (int, int) { return v.Cap(), v.Cap() }))
			}
			got := answersOf(t, name, given)
			checkAnswers(t, name, got, given)
			if again := answersOf(t, name, given); plainAll(again) != plainAll(got) {
				t.Fatalf("%s of %.3000s is %s, and then %s", name, plainAll(given), plainAll(got), plainAll(again))
			}
			for j, a := range given {
				now := copyDeep(a, func(v reflect.Value) (int, int) { return v.Cap(), v.Cap() })
				if !reflect.DeepEqual(now.Interface(), before[j].Interface()) {
					t.Fatalf("%s wrote into %.3000s", name, plainAll(before))
				}
			}
		}
	}
}

// checkAnswers wants memory of their own of all that is answered.
func checkAnswers(t *testing.T, name string, got, given []reflect.Value) {
	t.Helper()
	others := []any{}
	for _, a := range given {
		others = append(others, a.Interface())
	}
	for _, v := range got {
		checkApart(t, v.Interface(), others...)
		others = append(others, v.Interface())
	}
	if t.Failed() {
		t.Fatalf("%s of %.3000s", name, plainAll(given))
	}
}

// P13: no arguments at all, as Go has them: nothing is nil where there may be something.
func TestEveryFunctionAnswersAtNothing(t *testing.T) {
	for name, f := range everyFunction {
		kind := reflect.TypeOf(f)
		zero, empty := []reflect.Value{}, []reflect.Value{}
		for j := range kind.NumIn() {
			zero = append(zero, reflect.Zero(kind.In(j)))
			empty = append(empty, reflect.Zero(kind.In(j)))
			if kind.In(j).Kind() == reflect.Slice {
				empty[j] = reflect.MakeSlice(kind.In(j), 0, 3)
			}
		}
		got, same := answersOf(t, name, zero), answersOf(t, name, empty)
		// An empty list and nil are the same value.
		if plainAll(got) != plainAll(same) {
			t.Errorf("%s of nothing is %s, and %s of empty lists", name, plainAll(got), plainAll(same))
		}
	}
}
