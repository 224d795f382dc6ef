package tests

import (
	"strconv"
	"strings"
	"testing"

	"loop.example/g00377/impl"
)

func TestDeskConstants(t *testing.T) {
	if impl.MaxScript != 12000 {
		t.Error(impl.MaxScript)
	}
}

func checkReadVal(t *testing.T, s string, want impl.Val) {
	t.Helper()
	if got, ok := impl.ReadVal(s); !ok || plain(got) != plain(want) {
		t.Errorf("ReadVal of %q is %v, %v, not %v", s, got, ok, want)
	}
}

func checkNoReadVal(t *testing.T, s string) {
	t.Helper()
	if got, ok := impl.ReadVal(s); ok || plain(got) != plain(impl.Val{}) {
		t.Errorf("ReadVal of %.200q is %v, %v", s, got, ok)
	}
}

func TestReadVal(t *testing.T) {
	one, two := numVal(1), numVal(2)
	for s, want := range map[string]impl.Val{
		"0": numVal(0), "1": one, "-1": numVal(-1), "10": numVal(10), "999999999": numVal(999999999), "-999999999": numVal(-999999999), "100000000": numVal(100000000), "99999999": numVal(99999999),
		"a": atomVal("a"), "z": atomVal("z"), "aB_1": atomVal("aB_1"), "a_": atomVal("a_"), "abcdefghij": atomVal("abcdefghij"), "put": atomVal("put"), "module": atomVal("module"), "cases": atomVal("cases"), "en": atomVal("en"), "of1": atomVal("of1"), "true": atomVal("true"),
		"[]": nilVal(), "{1}": tupleVal(one), "{a,b}": tupleVal(atomVal("a"), atomVal("b")), "{1,2,1}": tupleVal(one, two, one), "{[]}": tupleVal(nilVal()), "{[],[]}": tupleVal(nilVal(), nilVal()), "{-1,-2}": tupleVal(numVal(-1), numVal(-2)), "{{{1}}}": tupleVal(tupleVal(tupleVal(one))), "{{1},{2}}": tupleVal(tupleVal(one), tupleVal(two)),
		"[1|2]": consVal(one, two), "[1|[]]": consVal(one, nilVal()), "[[]|[]]": consVal(nilVal(), nilVal()), "[[1|2]|[2|1]]": consVal(consVal(one, two), consVal(two, one)), "[1|[2|[-1|[]]]]": consVal(one, consVal(two, consVal(numVal(-1), nilVal()))), "[-1|a]": consVal(numVal(-1), atomVal("a")),
		"{[a|{b}],[]}": tupleVal(consVal(atomVal("a"), tupleVal(atomVal("b"))), nilVal()), "[{1,[2|1]}|{[]}]": consVal(tupleVal(one, consVal(two, one)), tupleVal(nilVal())),
	} {
		checkReadVal(t, s, want)
		if tight(want) != s {
			t.Error("the test's own", s)
		}
	}
}

func TestReadValOfNone(t *testing.T) {
	for _, s := range []string{
		"", " ", "\n", "1 ", " 1", "1\n", "\n1", "\t1", "{1, 2}", "{ 1}", "{1 }", "[1 |2]", "[1| 2]", "[ ]", "[] ", "a b", "a ",
		"01", "00", "000000001", "0000000000", "-0", "-00", "-01", "-", "--1", "-+1", "+1", "+0", "- 1", "1-", "1-1", "-a", "1000000000", "-1000000000", "1234567890", "9223372036854775807", "9223372036854775808", "18446744073709551617", strings.Repeat("9", 5000), "1.5", "1e3", "0x1", "1_0", "1a", "\u0661",
		"A", "X1", "_", "_a", "aA-", "abcdefghijk", strings.Repeat("a", 5000), "case", "of", "end", "a:b", "a/1", "f()", "a.b", "'a'", "\"a\"", "é", "aé", "a\x00", "\x00", "\xff", "a\xff", "%", "a%", "$",
		"{}", "{{}}", "[{}|1]", "{", "}", "[", "]", "|", ",", "{{", "}}", "[[", "]]", "{1", "1}", "{1}}", "{{1}", "[1|2", "1|2]", "[1|2]]", "[[1|2]", "[[1|2]|3", "{1,2", "1,2}", "[]]", "[[]", "{[}", "{]}", "[}", "{]", "[1|2}", "{1,2]", "{1]", "[1|{2]}", "{[1|2}]",
		"[1]", "[[]]", "[1,2]", "{1|2}", "[1|2|3]", "[1|2|]", "[|]", "[1|]", "[|1]", "[||1]", "[1||2]", "[1,2|3]", "[1|2,3]", "{1|2,3}", "[]|[]", "[],[]",
		"{1,}", "{,1}", "{,}", "{1,,2}", ",1", "1,", ",", "{1},", ",{1}", "1,2", "a,b", "[1|2],",
		"[]1", "[]a", "[][]", "1[]", "a[]", "a{1}", "1{a}", "{1}2", "{1}a", "{a}{b}", "[1|2]3", "[1|2][1|2]", "{1}x}", "{1 2}", "{a b}", "{-}", "{--1}", "{1,-}", "{01}", "[01|1]", "[1|01]", "{case}", "{A}", "[X|Y]", "{_}", "(1)", "{(1)}", "<1>", "[1|[2|[3]]]", "[1|[2,3]]",
	} {
		checkNoReadVal(t, s)
	}
	for i := range 256 {
		if b := byte(i); b < '0' || b > '9' && b < 'a' || b > 'z' {
			checkNoReadVal(t, string([]byte{b}))
			checkNoReadVal(t, string([]byte{'{', b, '}'}))
			checkNoReadVal(t, string([]byte{'1', b}))
			checkNoReadVal(t, string([]byte{b, b, '1'}))
		}
	}
}

// A tuple has 1 .. 20 kids, a list cell two.
func TestReadValOfKids(t *testing.T) {
	for count := range 30 {
		text := "{" + manyTexts(count, ",", func(i int) string { return strconv.Itoa(i) }) + "}"
		kids := []impl.Val{}
		for i := range count {
			kids = append(kids, numVal(i))
		}
		for _, s := range []string{text, "[" + text + "|[]]", "{1," + text + "}"} {
			_, ok := impl.ReadVal(s)
			if want := count >= 1 && count <= 20; ok != want {
				t.Error(s, ok)
			}
		}
		if count >= 1 && count <= 20 {
			checkReadVal(t, text, tupleVal(kids...))
		}
		cells := "[" + manyTexts(count, "|", same("1")) + "]"
		if _, ok := impl.ReadVal(cells); ok != (count == 0 || count == 2) {
			t.Error(cells, ok)
		}
	}
	checkNoReadVal(t, "{"+strings.Repeat("1,", 100000)+"1}")
	checkNoReadVal(t, "["+strings.Repeat("1|", 100000)+"1]")
}

// nests are ways in which brackets stand within one another: what is put around one that is told already.
var nests = []struct{ ahead, behind string }{
	{"{", "}"}, {"{1,", ",a}"}, {"[", "|[]]"}, {"[[]|", "]"}, {"[1|", "]"}, {"{[]," + "{1},[1|2],", ",[]}"}, {"[{a}|", "]"},
}

// mostOpen is how many brackets are open at once, in a text that closes all of them.
func mostOpen(text string) int {
	open, most := 0, 0
	for _, sign := range strings.ReplaceAll(text, "[]", "") {
		switch sign {
		case '{', '[':
			open++
		case '}', ']':
			open--
		}
		most = max(most, open)
	}
	return most
}

// 60 brackets may be open at once, in whichever way; [] opens none, and those that are closed again do not count.
func TestReadValOfManyBrackets(t *testing.T) {
	told := map[int]int{}
	for _, inner := range []string{"1", "-1", "a", "[]", "{1}", "{[]}", "[1|2]", "{1,{2},{3}}"} {
		for _, count := range []int{0, 1, 28, 29, 30, 31, 57, 58, 59, 60, 61, 62, 198, 199, 200, 201, 20000} {
			for i, nest := range nests {
				text := strings.Repeat(nest.ahead, count) + inner + strings.Repeat(nest.behind, count)
				other := nests[(i+1)%len(nests)]
				both := strings.Repeat(nest.ahead+other.ahead, count) + inner + strings.Repeat(other.behind+nest.behind, count)
				for _, s := range []string{text, both} {
					checkBrackets(t, s, mostOpen(s) <= 60)
					told[mostOpen(s)]++
				}
				if count > 0 {
					checkNoReadVal(t, text[:len(text)-1])
					checkNoReadVal(t, text+nest.behind)
					checkNoReadVal(t, nest.ahead+text)
				}
			}
		}
	}
	if told[59] < 30 || told[60] < 30 || told[61] < 30 {
		t.Error("too few", told)
	}
	for _, text := range []string{strings.Repeat("{", 60), strings.Repeat("[", 60), strings.Repeat("[", 100000), strings.Repeat("{", 100000), strings.Repeat("}", 100000), strings.Repeat("[]", 100000), strings.Repeat("[{", 100000), strings.Repeat("{1,", 100000), strings.Repeat("[1|", 100000)} {
		checkNoReadVal(t, text)
	}
	// By hand: as the words of the chapter count them.
	for _, k := range []struct {
		text string
		want bool
	}{
		{strings.Repeat("{", 60) + "[]" + strings.Repeat("}", 60), true}, {strings.Repeat("{", 61) + "[]" + strings.Repeat("}", 61), false}, {strings.Repeat("[1|", 60) + "[]" + strings.Repeat("]", 60), true}, {strings.Repeat("[1|", 61) + "[]" + strings.Repeat("]", 61), false},
		{strings.Repeat("[", 60) + "[]" + strings.Repeat("|[]]", 60), true}, {strings.Repeat("[", 61) + "[]" + strings.Repeat("|[]]", 61), false}, {strings.Repeat("{[", 30) + "1" + strings.Repeat("|2]}", 30), true}, {strings.Repeat("{[", 30) + "{1}" + strings.Repeat("|2]}", 30), false}, {"{" + strings.Repeat("{[", 30) + "1" + strings.Repeat("|2]}", 30) + "}", false},
	} {
		checkBrackets(t, k.text, k.want)
	}
	// Far more than 60 of them, side by side: 4 open at once.
	row := "{" + manyTexts(20, ",", same("{"+manyTexts(20, ",", same("{[1|[]]}"))+"}")) + "}"
	checkBrackets(t, row, true)
	checkBrackets(t, strings.Repeat("[", 56)+row+strings.Repeat("|1]", 56), true)
	checkBrackets(t, strings.Repeat("[", 57)+row+strings.Repeat("|1]", 57), false)
	checkBrackets(t, strings.Repeat("["+row+"|", 56)+row+strings.Repeat("]", 56), true)
}

// checkBrackets takes a text that is a value's, but perhaps for its brackets.
func checkBrackets(t *testing.T, text string, want bool) {
	t.Helper()
	v, ok := impl.ReadVal(text)
	if slow, same := slowReadVal(text); ok != want || same != ok || plain(v) != plain(slow) || ok && tight(v) != text {
		t.Errorf("ReadVal of %.300q is %v", text, ok)
	}
}

// P12, the second half: a value comes back from its text.
func TestValueComesBack(t *testing.T) {
	m := newMaker(121)
	told := map[string]int{}
	for range 20000 {
		v := m.val(5)
		text := strings.ReplaceAll(impl.ValText(v), " ", "")
		if strings.Contains(text, "4611686018427387904") {
			told["a number of too many digits"]++
			checkNoReadVal(t, text)
			continue
		}
		told[strconv.Itoa(v.Kind)]++
		checkReadVal(t, text, v)
	}
	checkKinds(t, told, 1000, "0", "1", "2", "3", "4", "a number of too many digits")
	// Those that are just ValOk, and those that are not; all are too deep for a script but the first ones.
	for _, deep := range []int{0, 1, 59, 60, 61, 199, 200, 201} {
		for _, wrap := range wraps {
			v := deepVal(deep, wrap)
			text := tight(v)
			if impl.ValOk(v) != (deep <= 200) {
				t.Fatal("the test's own", deep)
			}
			if deep <= 60 {
				checkReadVal(t, text, v)
			} else {
				checkNoReadVal(t, text)
			}
		}
	}
	// What is no value has a text as well, and none comes back from it.
	for range 20000 {
		v := m.oddVal(3)
		text := tight(v)
		if got, ok := impl.ReadVal(text); ok && (tight(got) != text || !impl.ValOk(got)) || impl.ValOk(v) && !ok {
			t.Fatalf("%q is %v, %v", text, got, ok)
		}
	}
}

// Texts that are nearly a value's, against the second reading.
func TestReadValAgainstWords(t *testing.T) {
	m := newMaker(122)
	signs := []string{"[", "]", "{", "}", "|", ",", "[]", "-", "0", "1", "a", "X", "_", " ", "case", "{}", "\xff"}
	good, count := 0, 60000
	for i := range count {
		text := tight(m.val(3))
		for range m.Intn(3) {
			at := m.Intn(len(text) + 1)
			behind := at + min(m.Intn(2), len(text)-at)
			text = text[:at] + pickOf(m, append(signs, "")) + text[behind:]
		}
		if i%4 == 0 {
			text = ""
			for range m.Intn(9) {
				text += pickOf(m, signs)
			}
		}
		got, ok := impl.ReadVal(text)
		if want, same := slowReadVal(text); ok != same || plain(got) != plain(want) {
			t.Fatalf("ReadVal of %q is %v, %v, not %v, %v", text, got, ok, want, same)
		}
		if ok {
			good++
		}
		if again, same := impl.ReadVal(text); same != ok || plain(again) != plain(got) {
			t.Fatalf("ReadVal of %q is another one", text)
		}
	}
	if good < count/5 || good > count*4/5 {
		t.Error("texts of one kind alone", good)
	}
}

// part is one of a script, a line or a module with its text, and what is answered.
type part struct{ lines, answer string }

// checkDesk wants each part's answer, and of all that begins the script what begins its answers.
func checkDesk(t *testing.T, parts ...part) {
	t.Helper()
	script, want := "", ""
	for i, k := range parts {
		script, want = script+k.lines+"\n", want+k.answer+"\n"
		got := impl.Desk(script)
		if got != want {
			t.Fatalf("behind part %d, %q, it is\n%s\nnot\n%s", i, k.lines, got, want)
		}
		if slow := slowScript(script); slow != got {
			t.Fatalf("behind part %d, %q, it is\n%s\nand a second telling\n%s", i, k.lines, got, slow)
		}
	}
}

// laidText is a module's part of a script.
func laidText(name, exports, funs string) string {
	return laidPart("-module(" + name + ").\n-export([" + exports + "]).\n" + funs + "\n")
}

func laidPart(text string) string { return strings.TrimSuffix(block(text), "\n") }

// Each order by hand, ahead of a session and in one.
func TestDesk(t *testing.T) {
	main := laidText("main", "go/2, one/1", "go(X, L) -> Y = X + 1, Z = {Y, X}, put(Z), W = lib:len(L), {Z, W}.\none(X) -> S = twice(X), put(S), S.\ntwice(X) -> X * 2.\nspare() -> 1.")
	lib := laidText("lib", "len/1", "len([]) -> 0;\nlen([_ | T]) -> 1 + len(T).")
	checkDesk(t,
		part{"check", "-"}, part{"calls", "-"}, part{"unused", "-"}, part{"past", "none"}, part{"undo", "none"}, part{"prune", "none"}, part{"show main", "none"}, part{"run main one 1", "none"},
		part{main, "ok"},
		part{"check", "main:go/2 far"}, part{"open", "bad"}, part{"past", "none"}, part{"fun main one 1 first", "none"}, part{"run main one 1", "ok 2 >2"}, part{"run main go 1 []", "fail undef >{2, 1}"}, part{"calls", "-"}, part{"unused", "-"},
		part{lib, "ok"},
		part{"check", "-"}, part{"past", "none"}, part{"redo", "none"}, part{"show lib", "-module(lib).;-export([len/1]).;len([]) -> 0;;len([_ | T]) -> 1 + len(T).;"},
		part{"run main go 1 [a|[b|[]]]", "ok {{2, 1}, 2} >{2, 1}"}, part{"run lib len [a|b]", "fail badfun"}, part{"run main twice 1", "none"},
		part{"calls", "lib:len/1>lib:len/1 main:go/2>lib:len/1 main:one/1>main:twice/1"}, part{"unused", "main:spare/0"},
		part{"open", "ok"}, part{"past", "0 0"}, part{"undo", "none"}, part{"redo", "none"},
		part{"var main go 2 0 Y Next", "ok"}, part{"show main", "-module(main).;-export([go/2, one/1]).;go(X, L) -> Next = (X + 1), Z = {Next, X}, put(Z), W = lib:len(L), {Z, W}.;one(X) -> S = twice(X), put(S), S.;twice(X) -> X * 2.;spare() -> 1.;"},
		part{"fun lib len 1 size", "ok"}, part{"run lib len []", "none"}, part{"run lib size [1|[]]", "ok 1"},
		part{"cut main go 2 0 0 2 part", "ok"}, part{"calls", "lib:size/1>lib:size/1 main:go/2>lib:size/1 main:go/2>main:part/1 main:one/1>main:twice/1"},
		part{"into main one 1 0 0", "ok"}, part{"unused", "main:spare/0 main:twice/1"},
		part{"move main part 1 lib", "ok"}, part{"past", "5 0"}, part{"prune", "ok"}, part{"prune", "shape"}, part{"unused", "-"}, part{"past", "6 0"},
		part{"show main", "-module(main).;-export([go/2, one/1]).;go(X, L) -> Z = lib:part(X), put(Z), W = lib:size(L), {Z, W}.;one(X) -> I1 = X, S = (I1 * 2), put(S), S.;"},
		part{"show lib", "-module(lib).;-export([part/1, size/1]).;size([]) -> 0;;size([_ | T]) -> 1 + size(T).;part(X) -> Next = (X + 1), Z = {Next, X}, Z.;"},
		part{"run main go 1 [a|[b|[]]]", "ok {{2, 1}, 2} >{2, 1}"}, part{"run main one 1", "ok 2 >2"}, part{"check", "-"},
		part{"undo", "ok"}, part{"undo", "ok"}, part{"past", "4 2"}, part{"unused", "main:spare/0 main:twice/1"}, part{"run lib part 1", "none"}, part{"redo", "ok"}, part{"run lib part 1", "ok {2, 1}"}, part{"past", "5 1"},
		part{"fun main spare 0 other", "ok"}, part{"past", "6 0"}, part{"redo", "none"}, part{"unused", "main:other/0 main:twice/1"},
		part{"open", "ok"}, part{"past", "0 0"}, part{"unused", "main:spare/0"}, part{"run lib size []", "none"}, part{"fun main spare 0 other", "ok"},
		part{laidText("lib", "", "len(_) -> 7."), "ok"},
		part{"past", "none"}, part{"check", "main:go/2 far"}, part{"open", "bad"}, part{"show main", "-module(main).;-export([go/2, one/1]).;go(X, L) -> Y = (X + 1), Z = {Y, X}, put(Z), W = lib:len(L), {Z, W}.;one(X) -> S = twice(X), put(S), S.;twice(X) -> X * 2.;spare() -> 1.;"}, part{"unused", "-"},
	)
}

// Each order with each of its codes, and without a session.
func TestDeskCodes(t *testing.T) {
	m := laidText("m", "f/1, g/1, h/1, wide/1", "f(X) -> Y = g(X), {Y, X}.\ng(X) -> put(X), X.\nh([]) -> 1;\nh(X) -> X.\nwide({A, B, C, D, E, F, G}) -> 1, {A, B, C, D, E, F, G}.")
	n := laidText("n", "g/1, k/0", "g(X) -> X.\nk() -> m:g(1).")
	for _, k := range []struct{ line, want string }{
		{"var m f 1 0 Y New", "ok"}, {"var m f 1 0 Q New", "none"}, {"var m f 1 1 Y New", "none"}, {"var m h 1 1 X New", "ok"}, {"var m h 1 0 X New", "none"}, {"var m f 2 0 Y New", "none"}, {"var n f 1 0 Y New", "none"}, {"var q f 1 0 Y New", "none"}, {"var m f 1 0 Y new", "name"}, {"var m f 1 0 Y _", "name"}, {"var m f 1 0 Y X", "taken"}, {"var m f 1 0 y X", "none"}, {"var m f 1 999999 Y New", "none"},
		{"fun m f 1 new", "ok"}, {"fun m f 0 new", "none"}, {"fun M f 1 new", "none"}, {"fun m - 1 new", "none"}, {"fun m f 1 New", "name"}, {"fun m f 1 case", "name"}, {"fun m f 1 g", "taken"}, {"fun m f 1 put", "taken"}, {"fun m f 1 f", "taken"},
		{"cut m f 1 0 0 1 part", "ok"}, {"cut m f 1 0 0 2 part", "ok"}, {"cut m f 1 0 1 1 part", "ok"}, {"cut m f 1 0 0 3 part", "none"}, {"cut m f 1 0 2 1 part", "none"}, {"cut m f 1 0 0 0 part", "none"}, {"cut m f 1 7 0 1 part", "none"}, {"cut m f 1 0 0 1 Part", "name"}, {"cut m f 1 0 0 1 g", "taken"}, {"cut m wide 1 0 1 1 part", "shape"}, {"cut m f 1 0 999999 999999 part", "none"},
		{"into m f 1 0 0", "ok"}, {"into m f 1 0 1", "shape"}, {"into m f 1 0 2", "none"}, {"into m f 1 1 0", "none"}, {"into m g 1 0 0", "shape"}, {"into n k 0 0 0", "shape"},
		{"move m f 1 n", "ok"}, {"move m g 1 n", "taken"}, {"move m f 1 q", "none"}, {"move m q 1 n", "none"}, {"move m f 1 m", "shape"}, {"move n k 0 m", "ok"}, {"move m h 1 n", "ok"},
		{"prune", "shape"}, {"undo", "none"}, {"redo", "none"},
	} {
		checkDesk(t, part{m, "ok"}, part{n, "ok"}, part{k.line, "none"}, part{"past", "none"}, part{"open", "ok"}, part{k.line, k.want}, part{"past", map[bool]string{true: "1 0", false: "0 0"}[k.want == "ok"]})
	}
	full := laidText("a", "f/1", "f(X) -> g0(), X.\n"+crowd(29))
	checkDesk(t, part{full, "ok"}, part{laidText("b", "", "k() -> 1.\nl() -> 1."), "ok"}, part{"open", "ok"}, part{"cut a f 1 0 0 1 part", "full"}, part{"move b k 0 a", "full"}, part{"past", "0 0"}, part{"prune", "ok"}, part{"past", "1 0"})
	// A body of 20 EXPs has room for none.
	checkDesk(t, part{laidText("a", "f/1", "f(X) -> g(X)"+strings.Repeat(", 1", 19)+".\ng(X) -> X."), "ok"}, part{"open", "ok"}, part{"into a f 1 0 0", "full"})
}

// 20 programs are ahead and no more, and so many can be taken back.
func TestDeskPast(t *testing.T) {
	parts := []part{{laidText("a", "f/1", "f(X) -> X."), "ok"}, {"open", "ok"}}
	names := []string{"X", "Y"}
	for i := range 25 {
		parts = append(parts, part{"var a f 1 0 " + names[i%2] + " " + names[1-i%2], "ok"}, part{"past", strconv.Itoa(min(20, i+1)) + " 0"})
	}
	for i := range 20 {
		parts = append(parts, part{"undo", "ok"}, part{"past", strconv.Itoa(19-i) + " " + strconv.Itoa(i+1)})
	}
	parts = append(parts, part{"undo", "none"}, part{"past", "0 20"}, part{"show a", "-module(a).;-export([f/1]).;f(Y) -> Y.;"})
	for range 20 {
		parts = append(parts, part{"redo", "ok"})
	}
	checkDesk(t, append(parts, part{"redo", "none"}, part{"past", "20 0"}, part{"undo", "ok"}, part{"fun a f 1 g", "ok"}, part{"redo", "none"}, part{"past", "20 0"})...)
}

// Modules with an end, without one and with nothing in them; and such as Parse does not tell.
func TestDeskModules(t *testing.T) {
	a := "-module(a).\n-export([f/0]).\nf() -> 1.\n"
	for _, k := range []struct{ script, want string }{
		{"module\n" + a + "--\n", "ok\n"}, {"module\n" + a, "ok\n"}, {"module\n" + a + "--\nshow a\n", "ok\n-module(a).;-export([f/0]).;f() -> 1.;\n"},
		{"module\n", "line 1\n"}, {"module\n--\n", "line 1\n"}, {"module\n\n", "line 1\n"}, {"module\n\n--\n", "line 1\n"}, {"module\n \n--\n", "line 1\n"}, {"module\n%\n--\n", "line 1\n"}, {"check\nmodule\n", "-\nline 1\n"},
		{"module\n" + a + "-- \n", "line 4\n"}, {"module\n" + a + " --\n", "line 4\n"}, {"module\n" + a + "---\n", "line 4\n"}, {"module\n" + a + "--\n--\n", "ok\nwhat\n"}, {"module\n" + a + "--\r\n", "line 4\n"},
		{"module\n" + a + "check\n", "line 4\n"}, {"module\n" + a + "check\n--\ncheck\n", "line 4\n-\n"}, {"module\nmodule\n" + a + "--\n", "line 1\n"}, {"module\n" + a + "module\n--\n", "line 4\n"},
		{"module\n-module(a).\n", "line 1\n"}, {"module\n-module(a).\n-export([]).\n", "line 2\n"}, {"module\n-module(a).\n--\n-export([]).\n", "line 1\nwhat\n"}, {"module\n-module(a).\n-export([]).\nf() -> !.\n--\n", "line 3\n"}, {"module\n-module(a).\n-export([]).\n\n\nf() -> 1 2.\n--\n", "line 5\n"},
		{"module\n-module(a).\n-export([]).\nf() -> _.\n--\n", "line 1\n"}, {"module\n-module(a).\n-export([]).\nf() -> 1.\nf() -> 2.\n--\n", "line 1\n"}, {"module\n-module(a).\n-export([]).\nf() -> X.\n--\ncheck\n", "ok\na:f/0 loose\n"},
		{"module\n% --\n" + a + "% --\n--\n", "ok\n"}, {"module\n" + a + "%--\n", "ok\n"}, {"module\n" + strings.ReplaceAll(a, "\n", " \n\n") + "--\n", "ok\n"},
		{"module\n" + a + "\xff\n", "line 4\n"}, {"module\n" + a + "\x00\n--\ncheck\n", "line 4\n-\n"},
		// Beyond MaxText is line 1, at it not.
		{"module\n" + a + strings.Repeat(" ", impl.MaxText-len(a)-1) + "\n--\ncheck\n", "ok\n-\n"}, {"module\n" + a + strings.Repeat(" ", impl.MaxText-len(a)) + "\n--\ncheck\n", "line 1\n-\n"},
	} {
		if got := impl.Desk(k.script); got != k.want {
			t.Errorf("%.200q is %q, not %q", k.script, got, k.want)
		}
		if got := slowScript(k.script); got != k.want {
			t.Errorf("%.200q is by a second telling %q, not %q", k.script, got, k.want)
		}
	}
	for i, n := range []string{"module ", "Module", "MODULE", " module", "modules", "module\r", "module a", "module\x00", "module --"} {
		if got := impl.Desk(n + "\n" + a + "--\nshow a\n"); got != strings.Repeat("what\n", 5)+"none\n" {
			t.Error(i, n, got)
		}
	}
}

// One of the same name is in its place; whether there is a session hangs on whether it is told.
func TestDeskModulesAgain(t *testing.T) {
	a, b := laidText("a", "f/0", "f() -> b:g()."), laidText("b", "g/0", "g() -> 1.\nu() -> 1.")
	checkDesk(t,
		part{b, "ok"}, part{a, "ok"}, part{"check", "-"}, part{"calls", "a:f/0>b:g/0"}, part{"open", "ok"}, part{"prune", "ok"}, part{"past", "1 0"},
		part{laidPart("f() -> 1.\n"), "line 1"}, part{"past", "1 0"}, part{"unused", "-"}, part{"module\n--", "line 1"}, part{"past", "1 0"}, part{laidText("b", "", "g() -> 1"), "line 3"}, part{"past", "1 0"},
		part{b, "ok"}, part{"past", "none"}, part{"undo", "none"}, part{"unused", "b:u/0"}, part{"open", "ok"}, part{"past", "0 0"},
		part{laidText("b", "g/0", "g() -> a:f()."), "ok"}, part{"past", "none"}, part{"calls", "a:f/0>b:g/0 b:g/0>a:f/0"}, part{"unused", "-"}, part{"show b", "-module(b).;-export([g/0]).;g() -> a:f().;"}, part{"run a f", "fuel"},
		part{laidText("b", "", "g() -> 2."), "ok"}, part{"check", "a:f/0 far"}, part{"open", "bad"}, part{"run a f", "fail undef"}, part{laidText("b", "g/0", "g() -> 2."), "ok"}, part{"open", "ok"}, part{"run a f", "ok 2"},
		part{laidText("A", "", "f() -> 1."), "line 1"}, part{laidText("c", "", "f() -> 1."), "ok"}, part{"past", "none"}, part{"unused", "c:f/0"},
	)
}

// Ten modules may be there; one more is full, and one in the place of another is not.
func TestDeskOfTenModules(t *testing.T) {
	names := []string{"m5", "m0", "zz", "m9", "a", "m1", "m", "m10", "k", "b"}
	parts := []part{}
	for _, name := range names {
		parts = append(parts, part{laidText(name, "", "f() -> 1."), "ok"}, part{"check", "-"})
	}
	all := "a:f/0 b:f/0 k:f/0 m0:f/0 m10:f/0 m1:f/0 m5:f/0 m9:f/0 m:f/0 zz:f/0"
	parts = append(parts, part{"unused", all}, part{"open", "ok"}, part{"fun a f 0 g", "ok"},
		part{laidText("c", "", "f() -> 1."), "full"}, part{"past", "1 0"}, part{"show c", "none"}, part{"show a", "-module(a).;-export([]).;g() -> 1.;"}, part{laidText("zzz", "", "f() -> 1."), "full"}, part{laidText("c", "", "f() -> 1 1."), "line 3"}, part{"undo", "ok"},
		part{laidText("m10", "", "f() -> 1.\nh() -> 2."), "ok"}, part{"past", "none"}, part{"show m10", "-module(m10).;-export([]).;f() -> 1.;h() -> 2.;"}, part{laidText("c", "", "f() -> 1."), "full"}, part{"check", "-"}, part{"open", "ok"}, part{"past", "0 0"}, part{"unused", strings.Replace(all, "m10:f/0", "m10:f/0 m10:h/0", 1)})
	checkDesk(t, parts...)
}

// Of no, one and several problems.
func TestDeskCheck(t *testing.T) {
	checkDesk(t,
		part{"check", "-"}, part{"open", "ok"}, part{"past", "0 0"},
		part{laidText("b", "f/0, g/1", "f() -> X, k(), c:f(), c:f()."), "ok"}, part{"check", "b:g/1 export;b:f/0 loose;b:f/0 call;b:f/0 far"}, part{"open", "bad"}, part{"past", "none"},
		part{laidText("a", "", "f() -> h(1).\ng() -> b:f()."), "ok"}, part{"check", "a:f/0 call;b:g/1 export;b:f/0 loose;b:f/0 call;b:f/0 far"}, part{"calls", "-"}, part{"unused", "-"},
		part{laidText("b", "f/0", "f() -> 1."), "ok"}, part{"check", "a:f/0 call"}, part{laidText("a", "", "f() -> put(1)."), "ok"}, part{"check", "-"}, part{"open", "ok"}, part{"check", "-"}, part{"fun a f 0 g", "ok"}, part{"check", "-"},
	)
}

// Runs of values of every kind, of more and fewer than the function's, of none; and with just 2000 of fuel.
func TestDeskRun(t *testing.T) {
	a := laidText("a", "f/0, f/1, f/2, f/6, loop/0, one/1", "f() -> none.\nf(X) -> put(X), {X}.\nf(X, Y) -> X + Y.\nf(A, B, C, D, E, F) -> put(F), [A, B, C, D | E].\nloop() -> put(1), loop().\none(1) -> Y.\nhidden() -> 1.")
	run := []part{{"run a f", "ok none"}}
	for _, v := range []string{"0", "1", "-1", "999999999", "-999999999", "a", "case1", "[]", "{1}", "{1, a, []}", "[1 | 2]", "[{a} | [[1 | []] | []]]", "{[{-1} | []], {{b}}}"} {
		run = append(run, part{"run a f " + strings.ReplaceAll(v, " ", ""), "ok {" + v + "} >" + v})
	}
	run = append(run,
		part{"run a f 1 2", "ok 3"}, part{"run a f 1 a", "fail badarith"}, part{"run a f -999999999 -999999999", "ok -1999999998"}, part{"run a f 1 2 3", "none"}, part{"run a f 1 2 3 4 5", "none"}, part{"run a f 1 2 3 4 [] 6", "ok [1 | [2 | [3 | [4 | []]]]] >6"}, part{"run a f 1 2 3 4 5 6 7", "none"}, part{"run a f 1 2 3 4 5 6 7 8 9 10 11 12", "none"},
		part{"run a one 2", "fail badfun"}, part{"run a one", "none"}, part{"run a loop", "fuel" + strings.Repeat(" >1", 200)}, part{"run a loop 1", "none"}, part{"run a hidden", "none"}, part{"run a gone", "none"}, part{"run b f", "none"}, part{"run A F", "none"}, part{"run - -", "none"},
		part{"run a f (", "what"}, part{"run a f 01", "what"}, part{"run a f 1 2 X", "what"}, part{"run a f X 2 3", "what"}, part{"run a f {}", "what"}, part{"run a f 1000000000", "what"}, part{"run a f 1 ", "what"}, part{"run a f  1", "what"}, part{"run b f (", "what"}, part{"run a", "what"}, part{"run", "what"}, part{"run a f {1, 2}", "what"},
		part{"run a f " + strings.Repeat("{", 60) + "1" + strings.Repeat("}", 60), "ok " + strings.Repeat("{", 61) + "1" + strings.Repeat("}", 61) + " >" + strings.Repeat("{", 60) + "1" + strings.Repeat("}", 60)}, part{"run a f " + strings.Repeat("{", 61) + "1" + strings.Repeat("}", 61), "what"},
	)
	checkDesk(t, append([]part{{a, "ok"}, {"check", "a:one/1 loose"}, {"run a one 1", "fail unbound"}}, run...)...)
	good := strings.Replace(a, "one(1) -> Y.", "one(1) -> 3.", 1)
	checkDesk(t, append([]part{{good, "ok"}, {"open", "ok"}, {"run a one 1", "ok 3"}}, run...)...)
	for fuel, want := range map[int]string{1999: "ok 1", 2000: "ok 1", 2001: "fuel"} {
		m := laidPart(impl.Show(spending(t, fuel)[0]))
		checkDesk(t, part{m, "ok"}, part{"run m f", want}, part{"open", "ok"}, part{"run m f", want})
	}
}

// What is no order: what, with a session and without one.
func TestDeskWhat(t *testing.T) {
	lines := []string{"", " ", "  ", "--", "-", "what", "ok", "none", "line 1", "long", "%", "% check", "f() -> 1.", "-module(a).", "quit", "Open", "OPEN", "Check", "PAST", "Undo", "vaR", "FUN", "Run a f", "SHOW a", "opened", "checks", "undo1", "redone", "\x00", "\xff", "check\x00", "check\t", "check\r", "\tcheck", "é", "var", "fun", "cut", "into", "move", "show", "run", "1", strings.Repeat("x", 4000), strings.Repeat("check ", 500), "show " + strings.Repeat("a ", 900)}
	for _, word := range []string{"check", "open", "prune", "undo", "redo", "past", "calls", "unused"} {
		lines = append(lines, word+" ", " "+word, word+" a", word+" 1", word+"  ", word+" "+word, word+";", word+".")
	}
	for _, line := range []string{"var a f 1 0 X New", "fun a f 1 new", "cut a f 1 0 0 1 new", "into a f 1 0 0", "move a f 1 b", "show a", "run a f 1"} {
		words := strings.Split(line, " ")
		with := func(at int, word string) string {
			list := append([]string{}, words...)
			list[at] = word
			return strings.Join(list, " ")
		}
		for i, word := range words {
			_, err := strconv.Atoi(word)
			// One part more is one more value of a run, of which the first ones are names then.
			if words[0] != "run" || err == nil {
				lines = append(lines, with(i, " "+word), with(i, word+" "))
			}
			if i == 0 || err == nil {
				lines = append(lines, with(i, ""))
			}
			if err != nil {
				continue
			}
			for _, number := range []string{"01", "00", "+1", "-0", "9999999999999999999", "1.", "1x", "1\x00", "\xff", "0x1", "１", ".1", "1,"} {
				lines = append(lines, with(i, number))
			}
			if words[0] != "run" {
				lines = append(lines, with(i, "-1"), with(i, "1000000"), with(i, "a"), with(i, "X"), with(i, "[]"), with(i, "{1}"))
			}
		}
		if words[0] != "run" {
			lines = append(lines, strings.Join(words[:len(words)-1], " "), line+" 1", line+" a", line+" a b c")
		}
		lines = append(lines, line+" (", line+" ", " "+line, strings.ToUpper(words[0])+line[len(words[0]):], words[0]+"x"+line[len(words[0]):], line+" {")
	}
	a := laidText("a", "f/1", "f(X) -> X.")
	for _, line := range lines {
		script := a + "\n" + line + "\nopen\nvar a f 1 0 X Y\n" + line + "\npast\nshow a\n"
		want := "ok\nwhat\nok\nok\nwhat\n1 0\n-module(a).;-export([f/1]).;f(Y) -> Y.;\n"
		if got := impl.Desk(script); got != want {
			t.Errorf("%q: %q", line, got)
		}
		if got := slowScript(script); got != want {
			t.Errorf("%q, by a second telling: %q", line, got)
		}
	}
}

// An empty part of a line is a name as any other text is: what is asked tells that there is none such, or that it may
// be none. Where a number or a value is wanted it is what, and so is a part too many.
func TestDeskOfEmptyNames(t *testing.T) {
	a := laidText("a", "f/1, g/0", "f(X) -> Y = {X}, put(Y).\ng() -> a.\nh() -> 1.")
	b := laidText("b", "", "k() -> 1.")
	asked := []struct{ line, want string }{
		{"var  f 1 0 X New", "none"}, {"var a  1 0 X New", "none"}, {"var   1 0 X New", "none"}, {"var a f 1 0  New", "none"}, {"var a f 1 0  ", "none"}, {"var a f 1 0 Q ", "none"}, {"var a f 1 0 X ", "name"}, {"var a f 1 1 X ", "none"}, {"var   1 0  ", "none"},
		{"fun  f 1 new", "none"}, {"fun a  1 new", "none"}, {"fun   1 new", "none"}, {"fun a f 1 ", "name"}, {"fun a f 2 ", "none"}, {"fun  f 1 ", "none"}, {"fun   0 ", "none"},
		{"cut  f 1 0 0 1 new", "none"}, {"cut a  1 0 0 1 new", "none"}, {"cut a f 1 0 0 1 ", "name"}, {"cut a f 1 0 0 3 ", "none"}, {"cut a f 1 1 0 1 ", "none"}, {"cut   0 0 0 0 ", "none"},
		{"into  f 1 0 0", "none"}, {"into a  1 0 0", "none"}, {"into   1 0 0", "none"},
		{"move  f 1 b", "none"}, {"move a  1 b", "none"}, {"move a f 1 ", "none"}, {"move   0 ", "none"},
	}
	for _, k := range asked {
		checkDesk(t, part{k.line, "none"}, part{"open", "ok"}, part{k.line, "none"}, part{"past", "0 0"})
		checkDesk(t, part{a, "ok"}, part{b, "ok"}, part{k.line, "none"}, part{"open", "ok"}, part{k.line, k.want}, part{"past", "0 0"}, part{"fun a h 0 j", "ok"}, part{k.line, k.want}, part{"past", "1 0"}, part{"undo", "ok"}, part{k.line, k.want}, part{"past", "0 1"}, part{"redo", "ok"})
	}
	for _, line := range []string{"show ", "run  ", "run  f", "run a ", "run  f 1", "run a  1", "run   1", "run   a [1|[]] {2}", "run  a f 1", "run a  f 1"} {
		checkDesk(t, part{line, "none"}, part{a, "ok"}, part{b, "ok"}, part{line, "none"}, part{"open", "ok"}, part{line, "none"}, part{"fun a g 0 j", "ok"}, part{line, "none"}, part{"run a j", "ok a"})
	}
	what := []string{"", " ", "  ", "show  ", "show a ", "show  a", "run a g ", "run  g ", "run a  ", "run   ", "run a f  1", "run a f 1 ", "run    1", "run   (", "run ", "open ", "past ", "check ", "prune ", "undo ", "redo ", "calls ", "unused ", "module ", " module"}
	what = append(what, "var a f  0 X New", "var a f 1  X New", "var a f 1 0 X New ", "var a f 1 0 X  New", "var      ", "fun a f  new", "fun a f  ", "fun a f 1  ", "fun    ", "cut a f  0 0 1 new", "cut a f 1  0 1 new", "cut a f 1 0  1 new", "cut a f 1 0 0  new", "cut a f 1 0 0 1 new ", "into a f  0 0", "into a f 1  0", "into a f 1 0 ", "into a f 1 0 0 ", "move a f  b", "move a f 1 b ", "move a f 1  b", "move a f 1")
	for _, line := range what {
		checkDesk(t, part{line, "what"}, part{a, "ok"}, part{b, "ok"}, part{line, "what"}, part{"open", "ok"}, part{line, "what"}, part{"past", "0 0"})
	}
}

// What is no script is long: without a newline at its end, with one byte or one line too many.
func TestDeskLimits(t *testing.T) {
	a := "module\n-module(a).\n-export([]).\nf() -> 1.\n"
	for _, k := range []struct{ script, want string }{
		{"", ""}, {"\n", "what\n"}, {"x", "long\n"}, {"check", "long\n"}, {"check\nopen", "long\n"}, {"check\n ", "long\n"}, {"check\n\x00", "long\n"}, {"check\r", "long\n"}, {" ", "long\n"}, {a[:len(a)-1], "long\n"}, {a + "--", "long\n"},
		{strings.Repeat("check\n", 200), strings.Repeat("-\n", 200)}, {strings.Repeat("check\n", 201), "long\n"}, {strings.Repeat("\n", 199), strings.Repeat("what\n", 199)}, {strings.Repeat("\n", 200), strings.Repeat("what\n", 200)}, {strings.Repeat("\n", 201), "long\n"}, {strings.Repeat("check\n", 200) + "x", "long\n"},
		{a + strings.Repeat("\n", 196), "ok\n"}, {a + strings.Repeat("\n", 197), "long\n"}, {a + strings.Repeat("\n", 195) + "--\n", "ok\n"}, {a + strings.Repeat("\n", 194) + "--\ncheck\n", "ok\n-\n"}, {a + strings.Repeat("\n", 195) + "--\ncheck\n", "long\n"},
		{strings.Repeat("x", 11999) + "\n", "what\n"}, {strings.Repeat("x", 12000) + "\n", "long\n"}, {strings.Repeat("x", 12000), "long\n"}, {"open\n" + strings.Repeat(" ", 11989) + "\npast\n", "ok\nwhat\n0 0\n"}, {"open\n" + strings.Repeat(" ", 11990) + "\npast\n", "long\n"}, {strings.Repeat("check\n", 100000), "long\n"}, {strings.Repeat("\x00", 1000000), "long\n"}, {strings.Repeat("a", 1000000) + "\n", "long\n"},
		{a + "--\n" + strings.Repeat("%", 11994-len(a)) + "\n" + "x\n", "ok\nwhat\nwhat\n"}, {a + "--\n" + strings.Repeat("%", 11995-len(a)) + "\n" + "x\n", "long\n"},
	} {
		if got := impl.Desk(k.script); got != k.want {
			t.Errorf("%.100q of %d bytes is %.100q, not %.100q", k.script, len(k.script), got, k.want)
		}
		if got := slowScript(k.script); got != k.want {
			t.Errorf("%.100q is by a second telling %.100q", k.script, got)
		}
	}
}

// standsWithin tells of each line of a script whether it stands within a module's text, or ends it.
func standsWithin(lines []string) []bool {
	list, reading := []bool{}, false
	for _, line := range lines {
		list = append(list, reading)
		switch {
		case reading:
			reading = line != "--\n"
		default:
			reading = line == "module\n"
		}
	}
	return list
}

// P12, the first half: what is told of a script begins with what is told of each of its beginnings. Of one that ends
// within a module's text it is so up to that module, which is told as it stands there; then one line follows.
func TestScriptBeginsWithItsBeginnings(t *testing.T) {
	m := newMaker(123)
	whole, within, long := 0, 0, 0
	for i := range 60 {
		script := strings.Join(m.script(i), "")
		all := impl.Desk(script)
		if all == "long\n" {
			long++
			continue
		}
		lines := strings.SplitAfter(script, "\n")
		lines = lines[:len(lines)-1]
		reading := append(standsWithin(lines), false)
		beginning, known := "", ""
		for j, line := range lines {
			beginning += line
			got := impl.Desk(beginning)
			if line == "module\n" && !reading[j] || reading[j] && reading[j+1] {
				within++
				if rest, ok := strings.CutPrefix(got, known); !ok || strings.Count(rest, "\n") != 1 || rest != "ok\n" && rest != "full\n" && !strings.HasPrefix(rest, "line ") {
					t.Fatalf("%s\nis\n%s\nand it was\n%s", beginning, got, known)
				}
				continue
			}
			if !strings.HasPrefix(got, known) || !strings.HasPrefix(all, got) || strings.Count(got[len(known):], "\n") != 1 {
				t.Fatalf("%s\nis\n%s\nand the whole\n%s", beginning, got, all)
			}
			whole++
			known = got
		}
	}
	if whole < 1000 || within < 500 || long > 30 {
		t.Error("too few", whole, within, long)
	}
}

// Scripts of any kind against the second desk.
func TestDeskAgainstSlowScript(t *testing.T) {
	m := newMaker(124)
	seen := map[string]int{}
	for i := range 700 {
		script := strings.Join(m.script(i), "")
		got, want := impl.Desk(script), slowScript(script)
		if got != want {
			t.Fatalf("%s\nis\n%s\nnot\n%s", script, got, want)
		}
		for _, line := range strings.SplitAfter(got, "\n") {
			seen[answerKind(line)]++
		}
		if again := impl.Desk(script); again != got {
			t.Fatalf("%s\nis\n%s\nand then\n%s", script, got, again)
		}
	}
	checkKinds(t, seen, 100, "ok", "none", "what", "-", "taken", "shape", "line", "fail", "calls", "show", "past", "bad")
	checkKinds(t, seen, 5, "name", "fuel", "long")
}

// answerKind is what a line that is answered is of, by its first word.
func answerKind(line string) string {
	word, _, _ := strings.Cut(strings.TrimSuffix(line, "\n"), " ")
	switch {
	case word != "" && word[0] >= '0' && word[0] <= '9':
		return "past"
	case strings.HasPrefix(word, "-module"):
		return "show"
	case strings.Contains(word, ">"):
		return "calls"
	case strings.Contains(word, "/"):
		return "unused or check"
	}
	return word
}

// Of texts of any bytes: an answer that ends with a newline, the same each time.
func TestDeskOfAnyBytes(t *testing.T) {
	m := newMaker(125)
	for i := range 4000 {
		bytes := make([]byte, m.Intn(80))
		for j := range bytes {
			bytes[j] = byte(m.Intn(256))
			if i%3 == 0 {
				bytes[j] = pickOf(m, []byte("modulechkp-\n \nfgab01X"))
			}
		}
		script := string(bytes)
		switch i % 4 {
		case 1:
			script += "\n"
		case 2:
			script = "module\n-module(a).\n-export([]).\nf() -> 1.\n" + script + "\n--\nopen\n" + strings.ReplaceAll(script, "\n", " ") + "\n"
		case 3:
			script = strings.Join(m.script(i), "")
			at := m.Intn(len(script))
			script = script[:at] + string(bytes[:min(3, len(bytes))]) + script[min(len(script), at+m.Intn(3)):]
		}
		got := impl.Desk(script)
		if want := slowScript(script); got != want || got != "" && got[len(got)-1] != '\n' || (got == "") != (script == "") {
			t.Fatalf("%q\nis\n%q\nnot\n%q", script, got, want)
		}
		v, ok := impl.ReadVal(string(bytes))
		if want, same := slowReadVal(string(bytes)); ok != same || plain(v) != plain(want) {
			t.Fatalf("%q is %v, %v", bytes, v, ok)
		}
	}
}

// A script that does much is told in the end.
func TestDeskOfMuch(t *testing.T) {
	a := laidText("a", "f/1, g/0", "f(0) -> 0;\nf(N) -> f(N - 1), f(N - 1).\ng() -> L = {1, 1, 1, 1, 1, 1, 1, 1, 1}, M = {L, L, L, L, L, L, L, L, L}, put(M), g().")
	got := impl.Desk(a + "\nopen\n" + strings.Repeat("run a f 999999999\nrun a g\nrun a f 9\n", 60))
	if lines := strings.Split(got, "\n"); len(lines) != 183 || lines[2] != "fuel" || !strings.HasPrefix(lines[3], "fuel >{{1, 1,") || lines[4] != "fuel" {
		t.Error(len(lines))
	}
	// Commands one behind the other, in modules that are as large as there is room for.
	wide := "f(X) -> Y = X, " + strings.Repeat("{"+strings.TrimSuffix(strings.Repeat("X, ", 20), ", ")+"}, ", 18) + "Y."
	script := laidText("a", "f/1", wide) + "\n" + laidText("b", "f/1", wide) + "\nopen\n"
	for i := range 160 {
		script += "var a f 1 0 " + []string{"Y Z", "Z Y"}[i%2] + "\n"
	}
	if got := impl.Desk(script); got != strings.Repeat("ok\n", 163) {
		t.Error(strings.Count(got, "ok\n"))
	}
}

// Nothing is kept: scripts beside one another do not see each other, and neither do values.
func TestDesksApart(t *testing.T) {
	m := newMaker(126)
	scripts := []string{}
	for i := range 24 {
		scripts = append(scripts, strings.Join(m.script(i), ""))
	}
	checkAlongside(t, 96, func(i int) string { return impl.Desk(scripts[i%24]) })
	checkAlongside(t, 96, func(i int) string {
		v, ok := impl.ReadVal("{" + strconv.Itoa(i) + ",[a|[]]}")
		return impl.ValText(v) + strconv.FormatBool(ok)
	})
}

// What is answered is new memory: no two lists of a value share any, also where its parts are alike.
func TestReadValMemory(t *testing.T) {
	m := newMaker(127)
	for range 500 {
		text := "{" + strings.TrimSuffix(strings.Repeat(tight(m.val(3))+",", 3), ",") + "}"
		one, ok := impl.ReadVal(text)
		two, _ := impl.ReadVal(text)
		checkApart(t, one)
		checkApart(t, one, two)
		want := plain(two)
		if spoilVals(one.Kids); ok && plain(two) != want {
			t.Fatal("written into", text)
		}
	}
}

// Random bytes in place of a part of a value's text.
func TestReadValOfAnyBytes(t *testing.T) {
	m := newMaker(128)
	for range 20000 {
		bytes := make([]byte, m.Intn(12))
		for i := range bytes {
			bytes[i] = pickOf(m, []byte("[]{}|,-019aZ_ \x00\xff"))
		}
		v, ok := impl.ReadVal(string(bytes))
		if want, same := slowReadVal(string(bytes)); ok != same || plain(v) != plain(want) {
			t.Fatalf("%q is %v, %v, not %v, %v", bytes, v, ok, want, same)
		}
	}
}
