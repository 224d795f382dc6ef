package impl

import (
	"strconv"
	"strings"
	"sync"
)

const (
	TokAtom   = 0
	TokVar    = 1
	TokNumber = 2
	TokSign   = 3
	MaxText   = 4000
)

const (
	maxName      = 10
	maxDigits    = 9
	maxDecDigits = 6
)

type Token struct {
	Kind int
	Text string
	N    int
	Line int
}

// keywords are made like atoms, and are none.
var keywords = [3]string{"case", "of", "end"}

var signs = [20]string{
	"_", "->", "==", "(", ")", "{", "}", "[", "]", "|",
	",", ";", ".", ":", "=", "<", "+", "-", "*", "/",
}

// signLengths has the greatest first: = must not be taken where == stands.
var signLengths = [2]int{2, 1}

// vocabulary holds the words that the language itself has, and their kinds.
// It is made once a text, not once a program: nothing is kept from call to call.
type vocabulary struct {
	once  sync.Once
	kinds map[string]int
}

// scanner is the place in one text, up to which its words are told.
type scanner struct {
	text  string
	at    int
	line  int
	known vocabulary
}

func AtomOk(s string) bool {
	return nameOk(s) && isSmall(s[0]) && !isKeyword(s)
}

func VarOk(s string) bool {
	return nameOk(s) && isGreat(s[0])
}

func Lex(s string) ([]Token, int) {
	if len(s) > MaxText {
		return []Token{}, 1
	}
	c := scanner{text: s, line: 1}
	list := []Token{}
	for c.skipGap(); c.at < len(s); c.skipGap() {
		word, ok := c.next()
		if !ok {
			return []Token{}, c.line
		}
		list = append(list, word)
	}
	return list, 0
}

func DecText(n int) string {
	return strconv.Itoa(n)
}

func ReadDec(s string) int {
	if len(s) > maxDecDigits || !madeOf(s, isDigit) {
		return -1
	}
	n := digitsValue(s)
	// Only the text that DecText tells counts: no nought ahead, and not the empty one.
	if DecText(n) != s {
		return -1
	}
	return n
}

func Words(s string) []string {
	return strings.Split(s, " ")
}

func (c *scanner) skipGap() {
	for c.at < len(c.text) {
		switch c.text[c.at] {
		case ' ':
			c.at++
		case '\n':
			c.at++
			c.line++
		case '%':
			c.take(isRemark)
		default:
			return
		}
	}
}

// take goes on behind all bytes of one kind, and tells them.
func (c *scanner) take(kind func(byte) bool) string {
	from := c.at
	for c.at < len(c.text) && kind(c.text[c.at]) {
		c.at++
	}
	return c.text[from:c.at]
}

func (c *scanner) next() (Token, bool) {
	first := c.text[c.at]
	switch {
	case isDigit(first):
		return c.number()
	case isNamePart(first):
		return c.name()
	}
	return c.sign()
}

func (c *scanner) number() (Token, bool) {
	digits := c.take(isDigit)
	if len(digits) > maxDigits {
		return Token{}, false
	}
	return Token{Kind: TokNumber, N: digitsValue(digits), Line: c.line}, true
}

func (c *scanner) name() (Token, bool) {
	text := c.take(isNamePart)
	kind, ok := c.known.kindOf(text)
	if !ok {
		kind, ok = nameKind(text)
	}
	if !ok {
		return Token{}, false
	}
	return Token{Kind: kind, Text: text, Line: c.line}, true
}

func (c *scanner) sign() (Token, bool) {
	for _, length := range signLengths {
		if c.at+length > len(c.text) {
			continue
		}
		text := c.text[c.at : c.at+length]
		if kind, ok := c.known.kindOf(text); ok {
			c.at += length
			return Token{Kind: kind, Text: text, Line: c.line}, true
		}
	}
	return Token{}, false
}

func (v *vocabulary) kindOf(text string) (int, bool) {
	v.once.Do(v.fill)
	kind, ok := v.kinds[text]
	return kind, ok
}

func (v *vocabulary) fill() {
	v.kinds = make(map[string]int, len(keywords)+len(signs))
	for _, text := range keywords {
		v.kinds[text] = TokSign
	}
	for _, text := range signs {
		v.kinds[text] = TokSign
	}
}

func nameKind(text string) (int, bool) {
	switch {
	case AtomOk(text):
		return TokAtom, true
	case VarOk(text):
		return TokVar, true
	}
	return 0, false
}

// nameOk tells of at least one sign, so that callers may ask for the first.
func nameOk(s string) bool {
	return len(s) >= 1 && len(s) <= maxName && madeOf(s, isNamePart)
}

func isKeyword(s string) bool {
	for _, text := range keywords {
		if text == s {
			return true
		}
	}
	return false
}

func madeOf(s string, kind func(byte) bool) bool {
	for i := range len(s) {
		if !kind(s[i]) {
			return false
		}
	}
	return true
}

// digitsValue is asked for few enough digits that the number does not wrap round.
func digitsValue(s string) int {
	n := 0
	for i := range len(s) {
		n = n*10 + int(s[i]-'0')
	}
	return n
}

func isSmall(b byte) bool { return 'a' <= b && b <= 'z' }

func isGreat(b byte) bool { return 'A' <= b && b <= 'Z' }

func isDigit(b byte) bool { return '0' <= b && b <= '9' }

func isNamePart(b byte) bool { return isSmall(b) || isGreat(b) || isDigit(b) || b == '_' }

func isRemark(b byte) bool { return b != '\n' }
