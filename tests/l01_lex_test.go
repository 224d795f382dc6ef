package tests

import (
	"math"
	"reflect"
	"regexp"
	"strconv"
	"strings"
	"testing"

	"loop.example/g00377/impl"
)

// lexTexts are ordinary texts, edges and texts that are no words, for the tests that ask for any text.
var lexTexts = []string{
	"",
	" ",
	"\n\n",
	"a",
	"X",
	"_",
	"0",
	"=",
	"-",
	"case",
	"% only a remark",
	"a % a remark at the end",
	"a % a remark and its line's end\n",
	"-module(m).\n-export([f/1]).\nf(X) -> X + 1.\n",
	"f([X | Y], {a, _}) -> case X of 1 -> Y; _ -> m:g(X) end.",
	"x = 999999999",
	"abcdefghij",
	"Abcdefghij",
	"abcdefghijk",
	"Abcdefghijk",
	"1234567890",
	"a\n_x",
	"a\n\n!",
	"a\n% !\n?",
	"\t",
	"\xff",
	"a \x00",
}

// lexTails hold no word.
var lexTails = []string{
	" ",
	"     ",
	"\n",
	"\n \n\n  ",
	"%",
	"%\n",
	"%%",
	"% case X of ! \" \t\r\x00\xff",
	" % a remark",
	" % a remark\n",
	"\n% a remark\n  % and one more\n\n",
}

func sameWords(a, b []impl.Token) bool {
	return len(a) == 0 && len(b) == 0 || reflect.DeepEqual(a, b)
}

func checkTails(t *testing.T, text string) {
	t.Helper()
	words, line := impl.Lex(text)
	for _, tail := range lexTails {
		if len(text)+len(tail) > impl.MaxText {
			continue
		}
		more, moreLine := impl.Lex(text + tail)
		if moreLine != line || !sameWords(words, more) {
			t.Errorf("Lex(%q) is %v, %d; with %q behind it %v, %d", text, words, line, tail, more, moreLine)
		}
	}
}

// P1, the second half.
func TestTailChangesNoWord(t *testing.T) {
	for _, text := range lexTexts {
		checkTails(t, text)
	}
	for _, text := range madeTexts(2000) {
		checkTails(t, text)
	}
	full := strings.Repeat("ab ", impl.MaxText/3-4)
	words, line := impl.Lex(full)
	filled := full + strings.Repeat(" ", impl.MaxText-len(full))
	more, moreLine := impl.Lex(filled)
	if line != 0 || moreLine != 0 || len(words) != impl.MaxText/3-4 || !sameWords(words, more) {
		t.Error("blanks up to the limit", len(words), line, len(more), moreLine)
	}
}

// P1, the first half.
func TestNumberComesBack(t *testing.T) {
	for n := 0; n <= 999999; n++ {
		if got := impl.ReadDec(impl.DecText(n)); got != n {
			t.Fatalf("ReadDec(DecText(%d)) is %d", n, got)
		}
	}
	for _, n := range []int{1000000, 1000001, 9999999, math.MaxInt, -1, -12, -999999, math.MinInt} {
		if got := impl.ReadDec(impl.DecText(n)); got != -1 {
			t.Errorf("ReadDec(DecText(%d)) is %d, not -1", n, got)
		}
	}
}

func TestNumberWordComesBack(t *testing.T) {
	for _, n := range []int{0, 1, 9, 10, 99, 1000000, 123456789, 999999999} {
		words, line := impl.Lex(impl.DecText(n))
		want := []impl.Token{{Kind: impl.TokNumber, N: n, Line: 1}}
		if line != 0 || !reflect.DeepEqual(words, want) {
			t.Errorf("Lex of the text of %d is %v, %d", n, words, line)
		}
	}
}

func TestDecText(t *testing.T) {
	cases := []struct {
		n    int
		want string
	}{
		{0, "0"}, {7, "7"}, {10, "10"}, {120, "120"}, {-1, "-1"}, {-120, "-120"}, {1000000, "1000000"},
		{math.MaxInt, "9223372036854775807"}, {math.MinInt, "-9223372036854775808"},
	}
	for _, c := range cases {
		if got := impl.DecText(c.n); got != c.want {
			t.Errorf("DecText(%d) is %q", c.n, got)
		}
	}
}

func TestReadDec(t *testing.T) {
	good := map[string]int{"0": 0, "1": 1, "9": 9, "10": 10, "120": 120, "100000": 100000, "999999": 999999}
	for s, want := range good {
		if got := impl.ReadDec(s); got != want {
			t.Errorf("ReadDec(%q) is %d", s, got)
		}
	}
	bad := []string{
		"", " ", "00", "01", "000000", "0000001", "0999999", "1000000", "9999999", "18446744073709551616", strings.Repeat("9", 50),
		"+1", "+0", "-0", "-1", "-999999", " 1", "1 ", "1\n", "1 2", "1.", "1a", "a1", "a", "-", "+", "0x1", "1_0", "1e3",
		"/", ":", "\x00", "1\x00", "\xff", "\u0663",
	}
	for _, s := range bad {
		if got := impl.ReadDec(s); got != -1 {
			t.Errorf("ReadDec(%q) is %d, not -1", s, got)
		}
	}
}

func TestAtomOk(t *testing.T) {
	good := []string{"a", "z", "aB_1", "a_", "a__", "a9", "abcdefghij", "aBCDEFGH_9", "cas", "cases", "caseof", "ofs", "o", "en", "ends", "end_", "cASE"}
	bad := []string{
		"", "case", "of", "end", "_", "_a", "__", "A", "Ab", "1", "1a", "abcdefghijk", strings.Repeat("a", 4001),
		"a b", "a ", " a", "a\n", "a-b", "a@", "a[", "a`", "a{", "`a", "{a", "a/", "a:", "a\x00", "a\xff", "\u00e4", "a\u00e4",
	}
	checkNames(t, "AtomOk", impl.AtomOk, good, bad)
}

func TestVarOk(t *testing.T) {
	good := []string{"A", "Z", "X1", "Ab_1", "A_", "A__", "Case", "OF", "END", "Abcdefghij", "ABCDEFGH_9"}
	bad := []string{
		"", "_", "_A", "__", "a", "aB", "case", "1", "1A", "Abcdefghijk", "ABCDEFGHIJK", strings.Repeat("A", 4001),
		"A B", "A ", " A", "A\n", "A-B", "A@", "A[", "A`", "A{", "@A", "[A", "A/", "A:", "A\x00", "A\xff", "\u00c4", "A\u00c4",
	}
	checkNames(t, "VarOk", impl.VarOk, good, bad)
}

func checkNames(t *testing.T, what string, ok func(string) bool, good, bad []string) {
	t.Helper()
	for _, s := range good {
		if !ok(s) {
			t.Errorf("%s(%q) is false", what, s)
		}
	}
	for _, s := range bad {
		if ok(s) {
			t.Errorf("%s(%q) is true", what, s)
		}
	}
}

func TestWordsOfNames(t *testing.T) {
	cases := []struct {
		text string
		kind int
	}{
		{"a", impl.TokAtom}, {"a_B", impl.TokAtom}, {"cased", impl.TokAtom}, {"end1", impl.TokAtom}, {"abcdefghij", impl.TokAtom}, {"a_________", impl.TokAtom},
		{"A", impl.TokVar}, {"Case", impl.TokVar}, {"OF", impl.TokVar}, {"END", impl.TokVar}, {"X_", impl.TokVar}, {"Abcdefghij", impl.TokVar}, {"A_________", impl.TokVar},
		{"case", impl.TokSign}, {"of", impl.TokSign}, {"end", impl.TokSign}, {"_", impl.TokSign},
	}
	for _, c := range cases {
		words, line := impl.Lex("\n " + c.text + "%")
		want := []impl.Token{{Kind: c.kind, Text: c.text, Line: 2}}
		if line != 0 || !reflect.DeepEqual(words, want) {
			t.Errorf("Lex of %q is %v, %d", c.text, words, line)
		}
	}
	for _, text := range []string{"__", "_a", "_A", "_1", "_case", "abcdefghijk", "Abcdefghijk", "ABCDEFGHIJK", "a__________", "casecasecas"} {
		checkNoWord(t, "a\n "+text, 2)
	}
}

func TestWordsOfSigns(t *testing.T) {
	signs := []string{"->", "==", "(", ")", "{", "}", "[", "]", "|", ",", ";", ".", ":", "=", "<", "+", "-", "*", "/"}
	for _, sign := range signs {
		words, line := impl.Lex(sign)
		want := []impl.Token{{Kind: impl.TokSign, Text: sign, Line: 1}}
		if line != 0 || !reflect.DeepEqual(words, want) {
			t.Errorf("Lex of %q is %v, %d", sign, words, line)
		}
	}
	for text, want := range map[string]string{
		"===":        "== =",
		"====":       "== ==",
		"= =":        "= =",
		"-->":        "- ->",
		"->->":       "-> ->",
		"=->":        "= ->",
		"<-":         "< -",
		"=<":         "= <",
		"a->b":       "a -> b",
		"A==_":       "A == _",
		"[]|{}":      "[ ] | { }",
		"m:f(X)/2..": "m : f ( X ) / # . .",
	} {
		if got := textsOf(t, text); got != want {
			t.Errorf("Lex of %q is %q", text, got)
		}
	}
	for _, text := range []string{">", "- >", "->>", "=>", ">=", "=\n>", "-\n>"} {
		checkNoWord(t, text, 1+strings.Count(text, "\n"))
	}
}

func textsOf(t *testing.T, text string) string {
	t.Helper()
	words, line := impl.Lex(text)
	if line != 0 {
		t.Errorf("Lex of %q has line %d", text, line)
	}
	list := []string{}
	for _, w := range words {
		if w.Kind == impl.TokNumber {
			list = append(list, "#")
		} else {
			list = append(list, w.Text)
		}
	}
	return strings.Join(list, " ")
}

func TestWordsOfNumbers(t *testing.T) {
	cases := []struct {
		text string
		n    int
	}{
		{"0", 0}, {"00", 0}, {"007", 7}, {"000000000", 0}, {"000000001", 1}, {"100000000", 100000000}, {"999999999", 999999999},
	}
	for _, c := range cases {
		words, line := impl.Lex(c.text)
		want := []impl.Token{{Kind: impl.TokNumber, N: c.n, Line: 1}}
		if line != 0 || !reflect.DeepEqual(words, want) {
			t.Errorf("Lex of %q is %v, %d", c.text, words, line)
		}
	}
	for _, text := range []string{"1234567890", "0000000000", "0000000001", "9999999999", strings.Repeat("9", 30), strings.Repeat("0", impl.MaxText)} {
		checkNoWord(t, text, 1)
	}
	words, line := impl.Lex("12ab 3_ 4X -5")
	want := []impl.Token{
		{Kind: impl.TokNumber, N: 12, Line: 1}, {Kind: impl.TokAtom, Text: "ab", Line: 1},
		{Kind: impl.TokNumber, N: 3, Line: 1}, {Kind: impl.TokSign, Text: "_", Line: 1},
		{Kind: impl.TokNumber, N: 4, Line: 1}, {Kind: impl.TokVar, Text: "X", Line: 1},
		{Kind: impl.TokSign, Text: "-", Line: 1}, {Kind: impl.TokNumber, N: 5, Line: 1},
	}
	if line != 0 || !reflect.DeepEqual(words, want) {
		t.Error("numbers beside names", words, line)
	}
}

func TestWordLines(t *testing.T) {
	words, line := impl.Lex("a\n\n B % c\nd%e\n%\n % f\n12\n->")
	want := []impl.Token{
		{Kind: impl.TokAtom, Text: "a", Line: 1}, {Kind: impl.TokVar, Text: "B", Line: 3}, {Kind: impl.TokAtom, Text: "d", Line: 4},
		{Kind: impl.TokNumber, N: 12, Line: 7}, {Kind: impl.TokSign, Text: "->", Line: 8},
	}
	if line != 0 || !reflect.DeepEqual(words, want) {
		t.Error("lines", words, line)
	}
	checkNoWord(t, "\n\n\n!", 4)
	checkNoWord(t, "!\n\n\n!", 1)
	checkNoWord(t, "a\n!\n\n", 2)
	checkNoWord(t, "% !\n% !\n!", 3)
	checkNoWord(t, "a !% b\n", 1)
}

func TestTextLimit(t *testing.T) {
	if words, line := impl.Lex(strings.Repeat(" ", impl.MaxText)); line != 0 || len(words) != 0 {
		t.Error("blanks at the limit", len(words), line)
	}
	if words, line := impl.Lex("%" + strings.Repeat("!", impl.MaxText-1)); line != 0 || len(words) != 0 {
		t.Error("a remark at the limit", len(words), line)
	}
	if words, line := impl.Lex(strings.Repeat("(", impl.MaxText)); line != 0 || len(words) != impl.MaxText {
		t.Error("signs at the limit", len(words), line)
	}
	checkNoWord(t, strings.Repeat("\n", impl.MaxText-1)+"!", impl.MaxText)
	for _, text := range []string{" ", "(", "\n", "!", "%"} {
		checkNoWord(t, strings.Repeat(text, impl.MaxText+1), 1)
	}
	checkNoWord(t, strings.Repeat("\n", impl.MaxText)+"!", 1)
}

func checkNoWord(t *testing.T, text string, want int) {
	t.Helper()
	if words, line := impl.Lex(text); line != want || len(words) != 0 {
		t.Errorf("Lex of %q is %v, %d, not line %d", text, words, line, want)
	}
}

func TestEachByte(t *testing.T) {
	const begins = "abcdefghijklmnopqrstuvwxyzABCDEFGHIJKLMNOPQRSTUVWXYZ0123456789_(){}[]|,;.:=<+-*/"
	for b := range 256 {
		text := string([]byte{byte(b)})
		words, line := impl.Lex("a\n" + text)
		switch {
		case strings.Contains(begins, text):
			if line != 0 || len(words) != 2 || words[1].Line != 2 {
				t.Errorf("byte %d: %v, %d", b, words, line)
			}
		case strings.Contains(" \n%", text):
			if line != 0 || len(words) != 1 {
				t.Errorf("byte %d: %v, %d", b, words, line)
			}
		default:
			if line != 2 || len(words) != 0 {
				t.Errorf("byte %d: %v, %d", b, words, line)
			}
		}
	}
}

var (
	wordPattern = regexp.MustCompile(`^(?:[A-Za-z_][A-Za-z0-9_]*|[0-9]+|->|==|[(){}\[\]|,;.:=<+*/-])`)
	gapPattern  = regexp.MustCompile(`^(?: |\n|%[^\n]*)`)
	atomPattern = regexp.MustCompile(`^[a-z][A-Za-z0-9_]{0,9}$`)
	varPattern  = regexp.MustCompile(`^[A-Z][A-Za-z0-9_]{0,9}$`)
	keyPattern  = regexp.MustCompile(`^(?:case|of|end|_)$`)
	namePattern = regexp.MustCompile(`^[A-Za-z_]`)
	numPattern  = regexp.MustCompile(`^[0-9]+$`)
)

// slowLex is Lex told a second time, by patterns, for texts within the limit.
func slowLex(s string) ([]impl.Token, int) {
	list := []impl.Token{}
	line := 1
	for s != "" {
		if gap := gapPattern.FindString(s); gap != "" {
			line += strings.Count(gap, "\n")
			s = s[len(gap):]
			continue
		}
		text := wordPattern.FindString(s)
		s = s[len(text):]
		switch {
		case text == "":
			return nil, line
		case numPattern.MatchString(text):
			if len(text) > 9 {
				return nil, line
			}
			n, _ := strconv.Atoi(text)
			list = append(list, impl.Token{Kind: impl.TokNumber, N: n, Line: line})
		case keyPattern.MatchString(text):
			list = append(list, impl.Token{Kind: impl.TokSign, Text: text, Line: line})
		case atomPattern.MatchString(text):
			list = append(list, impl.Token{Kind: impl.TokAtom, Text: text, Line: line})
		case varPattern.MatchString(text):
			list = append(list, impl.Token{Kind: impl.TokVar, Text: text, Line: line})
		case namePattern.MatchString(text):
			return nil, line
		default:
			list = append(list, impl.Token{Kind: impl.TokSign, Text: text, Line: line})
		}
	}
	return list, 0
}

// madeTexts are texts of pieces in an order that is mixed, and the same each time.
func madeTexts(count int) []string {
	pieces := []string{
		" ", "  ", "\n", "%", "% x", "a", "f1", "case", "of", "end", "_", "X", "Yz", "abcdefghi", "Abcdefghi", "0", "12", "99999",
		"->", "==", "=", "-", "<", "(", ")", "{", "}", "[", "]", "|", ",", ";", ".", ":", "+", "*", "/",
	}
	wrong := []string{"!", "\t", "\r", ">", "\x00", "\x7f", "\x80", "\xff", "\u00e4", "\"", "$"}
	state := uint32(1)
	pick := func(n int) int {
		state = state*1664525 + 1013904223
		return int(state>>16) % n
	}
	list := []string{}
	for range count {
		text := ""
		for range pick(30) {
			if pick(60) == 0 {
				text += wrong[pick(len(wrong))]
			} else {
				text += pieces[pick(len(pieces))]
			}
		}
		list = append(list, text)
	}
	return list
}

func TestLexAgainstPatterns(t *testing.T) {
	texts := append(madeTexts(20000), lexTexts...)
	good := 0
	for _, text := range texts {
		words, line := impl.Lex(text)
		want, wantLine := slowLex(text)
		if line != wantLine || !sameWords(words, want) {
			t.Errorf("Lex(%q) is %v, %d, not %v, %d", text, words, line, want, wantLine)
		}
		if line == 0 {
			good++
		}
	}
	if good < len(texts)/10 || good > len(texts)*9/10 {
		t.Error("texts of one kind alone", good, len(texts))
	}
}

func TestLexAnswersAlone(t *testing.T) {
	const text = "f(X) -> 1."
	first, _ := impl.Lex(text)
	kept := append([]impl.Token{}, first...)
	for i := range first {
		first[i] = impl.Token{Kind: -1, Text: "gone", N: -1, Line: -1}
	}
	if second, line := impl.Lex(text); line != 0 || !reflect.DeepEqual(second, kept) {
		t.Error("an answer that was written into changed the next one", second, line)
	}
	impl.Lex("a\n\n\n!")
	if again, line := impl.Lex(text); line != 0 || !reflect.DeepEqual(again, kept) {
		t.Error("a text that is no words changed the next answer", again, line)
	}
}

func TestWordsBetweenBlanks(t *testing.T) {
	cases := []struct {
		text string
		want []string
	}{
		{"", []string{""}},
		{" ", []string{"", ""}},
		{"a", []string{"a"}},
		{"a b", []string{"a", "b"}},
		{"a  b", []string{"a", "", "b"}},
		{" a ", []string{"", "a", ""}},
		{"   ", []string{"", "", "", ""}},
		{"a\nb\tc d", []string{"a\nb\tc", "d"}},
		{"\xff \x00", []string{"\xff", "\x00"}},
		{"\u00e4\u00a0b c", []string{"\u00e4\u00a0b", "c"}},
	}
	for _, c := range cases {
		if got := impl.Words(c.text); !reflect.DeepEqual(got, c.want) {
			t.Errorf("Words(%q) is %q", c.text, got)
		}
	}
	for _, text := range append(madeTexts(200), strings.Repeat(" ", 5000)) {
		got := impl.Words(text)
		if len(got) != strings.Count(text, " ")+1 || strings.Join(got, " ") != text {
			t.Errorf("Words(%q) is %q", text, got)
		}
	}
}

func TestWordConstants(t *testing.T) {
	got := [5]int{impl.TokAtom, impl.TokVar, impl.TokNumber, impl.TokSign, impl.MaxText}
	if got != [5]int{0, 1, 2, 3, 4000} {
		t.Error("constants", got)
	}
}
