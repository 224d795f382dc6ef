package tests

import (
	"cmp"
	"math"
	"slices"
	"strconv"
	"strings"
	"testing"

	"loop.example/g00377/impl"
)

// kindVals are one good value of each kind, with its text.
var kindVals = []struct {
	val  impl.Val
	text string
}{
	{numVal(7), "7"},
	{atomVal("ok"), "ok"},
	{tupleVal(numVal(1)), "{1}"},
	{nilVal(), "[]"},
	{consVal(numVal(1), nilVal()), "[1 | []]"},
}

// ladder are values, good ones and others, from the least to the greatest.
var ladder = []impl.Val{
	{Kind: math.MinInt},
	{Kind: -1, N: 9, Text: "z"},
	numVal(math.MinInt),
	numVal(-2),
	numVal(-1),
	numVal(0),
	{N: 0, Text: "a"},
	{N: 0, Text: "a", Kids: []impl.Val{nilVal()}},
	numVal(1),
	numVal(10),
	numVal(math.MaxInt),
	{Kind: impl.VAtom, N: -1, Text: "z"},
	atomVal(""),
	atomVal("A"),
	atomVal("_"),
	atomVal("a"),
	{Kind: impl.VAtom, Text: "a", Kids: []impl.Val{numVal(0)}},
	atomVal("aB"),
	atomVal("a_"),
	atomVal("aa"),
	atomVal("ab"),
	atomVal("b"),
	atomVal("\x80"),
	atomVal("\xff"),
	{Kind: impl.VAtom, N: 1, Text: "a"},
	tupleVal(),
	tupleVal(numVal(1)),
	tupleVal(numVal(1), numVal(0)),
	tupleVal(numVal(1), numVal(0), numVal(0)),
	tupleVal(numVal(1), numVal(2)),
	tupleVal(numVal(1), tupleVal(numVal(9))),
	tupleVal(numVal(1), nilVal()),
	tupleVal(numVal(2)),
	tupleVal(numVal(2), numVal(0)),
	tupleVal(atomVal("a"), numVal(9)),
	tupleVal(atomVal("b"), numVal(0)),
	tupleVal(tupleVal(numVal(1), numVal(5)), numVal(9)),
	tupleVal(tupleVal(numVal(2)), numVal(0)),
	tupleVal(tupleVal(numVal(2), numVal(0)), numVal(0)),
	nilVal(),
	{Kind: impl.VNil, N: 1},
	consVal(numVal(1), nilVal()),
	consVal(numVal(1), consVal(numVal(0), nilVal())),
	consVal(numVal(1), consVal(numVal(1), nilVal())),
	consVal(numVal(2), numVal(0)),
	consVal(numVal(2), nilVal()),
	consVal(nilVal(), nilVal()),
	consVal(consVal(numVal(1), nilVal()), nilVal()),
	{Kind: 5},
	{Kind: math.MaxInt},
}

// P3: values of every kind, and those that are none, stand in one order.
func TestValuesStandInOneOrder(t *testing.T) {
	for i, a := range ladder {
		for k, b := range ladder {
			if got := impl.CompareVal(a, b); got != cmp.Compare(i, k) {
				t.Errorf("CompareVal of %v and %v is %d", a, b, got)
			}
		}
	}
}

// P3: of any three the order is that of a row of numbers.
func TestOrderOfAnyValues(t *testing.T) {
	m := newMaker(31)
	for range 4000 {
		list := []impl.Val{m.val(3), m.val(2), m.oddVal(2)}
		list = append(list, roomy(pickOf(m, list)), changed(m, pickOf(m, list)))
		for _, a := range list {
			for _, b := range list {
				checkOrder(t, a, b)
			}
		}
		slices.SortFunc(list, impl.CompareVal)
		for i := range list {
			for k := range i {
				if impl.CompareVal(list[k], list[i]) > 0 {
					t.Errorf("%v stands ahead of %v, and %v behind", list[k], list[i], list[k+1:i])
				}
			}
		}
	}
}

// changed is a value with one thing in it that is another one.
func changed(m maker, v impl.Val) impl.Val {
	if len(v.Kids) > 0 && m.Intn(3) > 0 {
		v.Kids = slices.Clone(v.Kids)
		i := m.Intn(len(v.Kids))
		v.Kids[i] = changed(m, v.Kids[i])
		return v
	}
	switch m.Intn(4) {
	case 0:
		v.Kind++
	case 1:
		v.N--
	case 2:
		v.Text += "a"
	default:
		v.Kids = append(slices.Clone(v.Kids), numVal(0))
	}
	return v
}

func checkOrder(t *testing.T, a, b impl.Val) {
	t.Helper()
	got := impl.CompareVal(a, b)
	if got != slowCompare(a, b) || got != -impl.CompareVal(b, a) || (got == 0) != (plain(a) == plain(b)) {
		t.Errorf("CompareVal of %v and %v is %d", a, b, got)
	}
}

type orderKey struct {
	n    int
	text string
}

// keysOf lays a value out so that the order of values is that of the rows: a 1 ahead of each kid, and a 0 behind them.
func keysOf(v impl.Val) []orderKey {
	keys := []orderKey{{n: v.Kind}, {n: v.N}, {text: v.Text}}
	for _, kid := range v.Kids {
		keys = append(append(keys, orderKey{n: 1}), keysOf(kid)...)
	}
	return append(keys, orderKey{n: 0})
}

func slowCompare(a, b impl.Val) int {
	return slices.CompareFunc(keysOf(a), keysOf(b), func(x, y orderKey) int {
		return cmp.Or(cmp.Compare(x.n, y.n), cmp.Compare(x.text, y.text))
	})
}

func TestEmptyAndNilKidsAreAlike(t *testing.T) {
	a, b := numVal(1), impl.Val{N: 1, Kids: []impl.Val{}}
	if impl.CompareVal(a, b) != 0 || impl.CompareVal(b, a) != 0 || !impl.ValOk(b) {
		t.Error("empty kids and nil")
	}
}

func checkVal(t *testing.T, what string, v impl.Val, want bool) {
	t.Helper()
	if impl.ValOk(v) != want {
		t.Errorf("%s: ValOk of %v is %v", what, v, !want)
	}
	for _, around := range []impl.Val{tupleVal(v), tupleVal(numVal(1), v), consVal(v, nilVal()), consVal(nilVal(), v)} {
		if impl.ValOk(around) != want {
			t.Errorf("%s: ValOk of %v is %v", what, around, !want)
		}
	}
}

func TestValOk(t *testing.T) {
	m := newMaker(32)
	for range 1000 {
		checkVal(t, "made", m.val(4), true)
	}
	for _, k := range kindVals {
		checkVal(t, "kind", k.val, true)
	}
	for _, n := range []int{math.MinInt, -1, 0, 1000000000, math.MaxInt} {
		checkVal(t, "number", numVal(n), true)
	}
	for _, text := range []string{"a", "aB_1", "abcdefghij", "true"} {
		checkVal(t, "atom", atomVal(text), true)
	}
	for _, text := range []string{"", "A", "_", "_a", "1", "case", "of", "end", "abcdefghijk", "a b", "a\n", "\xff"} {
		checkVal(t, "no atom", atomVal(text), false)
	}
	for _, kind := range []int{math.MinInt, -1, 5, math.MaxInt} {
		checkVal(t, "no kind", impl.Val{Kind: kind}, false)
		checkVal(t, "no kind", impl.Val{Kind: kind, Text: "a", Kids: []impl.Val{nilVal(), nilVal()}}, false)
	}
	for count := range 30 {
		kids := slices.Repeat([]impl.Val{numVal(1)}, count)
		checkVal(t, "kids of a tuple", impl.Val{Kind: impl.VTuple, Kids: kids}, count >= 1 && count <= 20)
		checkVal(t, "kids of a cell", impl.Val{Kind: impl.VCons, Kids: kids}, count == 2)
		checkVal(t, "kids of a number", impl.Val{Kind: impl.VNum, Kids: kids}, count == 0)
		checkVal(t, "kids of an atom", impl.Val{Kind: impl.VAtom, Text: "a", Kids: kids}, count == 0)
		checkVal(t, "kids of []", impl.Val{Kind: impl.VNil, Kids: kids}, count == 0)
	}
}

func TestFieldsThatAKindHasNot(t *testing.T) {
	for _, k := range kindVals {
		for _, n := range []int{1, -1} {
			v := k.val
			v.N = n
			checkVal(t, "N", v, v.Kind == impl.VNum)
		}
		for _, text := range []string{"a", " "} {
			v := k.val
			v.Text = text
			checkVal(t, "Text", v, v.Kind == impl.VAtom && text == "a")
		}
	}
}

// deepVal stands as many deep as told; each layer is put around it by wrap.
func deepVal(deep int, wrap func(impl.Val) impl.Val) impl.Val {
	v := nilVal()
	for range deep {
		v = wrap(v)
	}
	return v
}

var wraps = []func(impl.Val) impl.Val{
	func(v impl.Val) impl.Val { return tupleVal(v) },
	func(v impl.Val) impl.Val { return tupleVal(numVal(1), v, numVal(2)) },
	func(v impl.Val) impl.Val { return consVal(v, nilVal()) },
	func(v impl.Val) impl.Val { return consVal(numVal(1), v) },
}

func TestDepthOfValues(t *testing.T) {
	for i, wrap := range wraps {
		for deep, want := range map[int]bool{0: true, 1: true, 199: true, 200: true, 201: false, 202: false, 5000: false} {
			if impl.ValOk(deepVal(deep, wrap)) != want {
				t.Errorf("wrap %d: %d deep: ValOk is %v", i, deep, !want)
			}
		}
	}
}

// What is too deep for ValOk is ordered, told and matched all the same.
func TestFarTooDeepValues(t *testing.T) {
	const deep = 5000
	for _, wrap := range wraps {
		v := deepVal(deep, wrap)
		if impl.CompareVal(v, deepVal(deep, wrap)) != 0 || impl.CompareVal(v, deepVal(deep+1, wrap)) != impl.CompareVal(nilVal(), wrap(nilVal())) {
			t.Error("order")
		}
		if found, ok := impl.Match(variable("X"), v, nil); !ok || len(found) != 1 || impl.CompareVal(found[0].Val, v) != 0 {
			t.Error("match")
		}
	}
	if got, want := impl.ValText(deepVal(deep, wraps[3])), strings.Repeat("[1 | ", deep)+"[]"+strings.Repeat("]", deep); got != want {
		t.Error("text", len(got))
	}
}

func TestValueWithoutAnEnd(t *testing.T) {
	kids := []impl.Val{numVal(1), numVal(2)}
	kids[1] = impl.Val{Kind: impl.VCons, Kids: kids}
	if impl.ValOk(kids[1]) || impl.ValOk(impl.Val{Kind: impl.VTuple, Kids: kids}) {
		t.Error("a value that goes down without an end")
	}
}

func TestValText(t *testing.T) {
	for _, k := range kindVals {
		checkValText(t, k.val, k.text)
	}
	for _, c := range []struct {
		val  impl.Val
		want string
	}{
		{numVal(0), "0"},
		{numVal(-1), "-1"},
		{numVal(math.MaxInt), "9223372036854775807"},
		{numVal(math.MinInt), "-9223372036854775808"},
		{atomVal("aB_1"), "aB_1"},
		{tupleVal(numVal(1), atomVal("b")), "{1, b}"},
		{tupleVal(numVal(1), numVal(2), numVal(3)), "{1, 2, 3}"},
		{tupleVal(tupleVal(tupleVal(nilVal())), atomVal("a")), "{{{[]}}, a}"},
		{consVal(numVal(1), numVal(2)), "[1 | 2]"},
		{consVal(numVal(1), consVal(numVal(2), consVal(numVal(3), nilVal()))), "[1 | [2 | [3 | []]]]"},
		{consVal(consVal(atomVal("a"), nilVal()), tupleVal(nilVal(), numVal(-5))), "[[a | []] | {[], -5}]"},
		// Of another kind there is no text, and what a kind has not is not told.
		{impl.Val{Kind: -1}, ""},
		{impl.Val{Kind: 5}, ""},
		{impl.Val{Kind: 5, N: 1, Text: "a", Kids: []impl.Val{numVal(1), numVal(2)}}, ""},
		{impl.Val{Kind: math.MaxInt, N: 1}, ""},
		{tupleVal(numVal(1), impl.Val{Kind: 5}), "{1, }"},
		{consVal(impl.Val{Kind: -1}, nilVal()), "[ | []]"},
		{impl.Val{Kind: impl.VNum, N: 3, Text: "a", Kids: []impl.Val{nilVal()}}, "3"},
		{impl.Val{Kind: impl.VAtom, N: 3, Text: "a", Kids: []impl.Val{nilVal()}}, "a"},
		{impl.Val{Kind: impl.VNil, N: 3, Text: "a", Kids: []impl.Val{nilVal()}}, "[]"},
		{impl.Val{Kind: impl.VTuple, N: 3, Text: "a", Kids: []impl.Val{nilVal()}}, "{[]}"},
		{atomVal("Not one\n"), "Not one\n"},
		{atomVal(""), ""},
		{tupleVal(), "{}"},
		{tupleVal(slices.Repeat([]impl.Val{numVal(1)}, 21)...), "{" + strings.Repeat("1, ", 20) + "1}"},
		{cell(), "[]"},
		{impl.Val{Kind: impl.VCons, N: 3, Text: "no"}, "[]"},
		{cell(numVal(1)), "[1]"},
		{cell(cell()), "[[]]"},
		{cell(numVal(1), numVal(2), numVal(3)), "[1 | 2 | 3]"},
		{tupleVal(cell(), numVal(1)), "{[], 1}"},
		{consVal(cell(atomVal("a")), cell(nilVal(), cell(), tupleVal())), "[[a] | [[] | [] | {}]]"},
		{cell(impl.Val{Kind: 5}), "[]"},
		{cell(impl.Val{Kind: 5}, numVal(1), impl.Val{Kind: -1}), "[ | 1 | ]"},
	} {
		checkValText(t, c.val, c.want)
	}
}

// cell is a list's cell with any number of kids.
func cell(kids ...impl.Val) impl.Val {
	return impl.Val{Kind: impl.VCons, Kids: kids}
}

// The Kind alone says how a value is told, however many kids it has.
func TestValTextByKind(t *testing.T) {
	for count := range 30 {
		kids := slices.Repeat([]impl.Val{atomVal("b")}, count)
		texts := slices.Repeat([]string{"b"}, count)
		checkValText(t, cell(kids...), "["+strings.Join(texts, " | ")+"]")
		checkValText(t, tupleVal(kids...), "{"+strings.Join(texts, ", ")+"}")
	}
	m := newMaker(37)
	for range 3000 {
		v := m.oddVal(3)
		checkValText(t, v, slowText(v))
		checkValText(t, cell(v, v, v), "["+slowText(v)+" | "+slowText(v)+" | "+slowText(v)+"]")
	}
}

// slowText tells the kids first, and joins them by their own value's kind.
func slowText(v impl.Val) string {
	texts := []string{}
	for _, kid := range v.Kids {
		texts = append(texts, slowText(kid))
	}
	told := map[int]string{
		impl.VNum:   strconv.Itoa(v.N),
		impl.VAtom:  v.Text,
		impl.VTuple: "{" + strings.Join(texts, ", ") + "}",
		impl.VNil:   "[]",
		impl.VCons:  "[" + strings.Join(texts, " | ") + "]",
	}
	return told[v.Kind]
}

func checkValText(t *testing.T, v impl.Val, want string) {
	t.Helper()
	if got := impl.ValText(v); got != want {
		t.Errorf("ValText of %v is %q, not %q", v, got, want)
	}
}

func checkMatch(t *testing.T, pat impl.Exp, v impl.Val, env, want []impl.Bind) {
	t.Helper()
	got, ok := impl.Match(pat, v, env)
	if !ok || plain(got) != plain(want) {
		t.Errorf("Match of %v, %v with %v is %v, %v, not %v", pat, v, env, got, ok, want)
	}
}

func checkNoMatch(t *testing.T, pat impl.Exp, v impl.Val, env ...impl.Bind) {
	t.Helper()
	if got, ok := impl.Match(pat, v, env); ok || len(got) != 0 {
		t.Errorf("Match of %v, %v with %v is %v, %v", pat, v, env, got, ok)
	}
}

// kindPats are a pattern of each kind for each of kindVals; no other one of these fits it.
var kindPats = []impl.Exp{num(7), atom("ok"), tuple(num(1)), none(), cons(num(1), none())}

func TestMatchKinds(t *testing.T) {
	env := []impl.Bind{bind("A", numVal(1)), bind("B", tupleVal(numVal(7)))}
	for i, pat := range kindPats {
		for k, v := range kindVals {
			if i == k {
				checkMatch(t, pat, v.val, nil, nil)
				checkMatch(t, pat, v.val, env, env)
			} else {
				checkNoMatch(t, pat, v.val)
				checkNoMatch(t, pat, v.val, env...)
			}
		}
	}
	for _, k := range kindVals {
		checkMatch(t, anyOne(), k.val, env, env)
		checkMatch(t, variable("X"), k.val, nil, []impl.Bind{bind("X", k.val)})
		checkMatch(t, variable("X"), k.val, env, []impl.Bind{env[0], env[1], bind("X", k.val)})
		checkMatch(t, variable("A"), k.val, []impl.Bind{bind("A", k.val)}, []impl.Bind{bind("A", k.val)})
		checkNoMatch(t, variable("A"), k.val, env...)
	}
}

func TestMatchParts(t *testing.T) {
	one, two, three := numVal(1), numVal(2), numVal(3)
	x, y, z := variable("X"), variable("Y"), variable("Z")
	checkMatch(t, num(-5), numVal(-5), nil, nil)
	checkNoMatch(t, num(1), two)
	checkNoMatch(t, num(0), atomVal("a"))
	checkNoMatch(t, num(0), nilVal())
	checkNoMatch(t, atom("a"), atomVal("ab"))
	checkNoMatch(t, atom("ab"), atomVal("a"))
	checkMatch(t, tuple(x, y, z), tupleVal(one, two, three), nil, []impl.Bind{bind("X", one), bind("Y", two), bind("Z", three)})
	checkMatch(t, tuple(z, anyOne(), x), tupleVal(one, two, three), nil, []impl.Bind{bind("Z", one), bind("X", three)})
	checkNoMatch(t, tuple(x, y), tupleVal(one, two, three))
	checkNoMatch(t, tuple(x, y), tupleVal(one))
	checkNoMatch(t, tuple(anyOne()), tupleVal(one, two))
	checkNoMatch(t, tuple(x, num(1)), tupleVal(one, two))
	checkNoMatch(t, tuple(x, y), consVal(one, two))
	checkNoMatch(t, cons(x, y), tupleVal(one, two))
	checkNoMatch(t, cons(x, y), nilVal())
	checkNoMatch(t, none(), consVal(one, nilVal()))
	checkMatch(t, cons(x, y), consVal(one, consVal(two, nilVal())), nil, []impl.Bind{bind("X", one), bind("Y", consVal(two, nilVal()))})
	checkMatch(t, cons(x, cons(y, none())), consVal(one, consVal(two, nilVal())), nil, []impl.Bind{bind("X", one), bind("Y", two)})
	checkNoMatch(t, cons(x, cons(y, none())), consVal(one, nilVal()))
	checkNoMatch(t, cons(num(2), x), consVal(one, two))
	checkNoMatch(t, cons(x, num(1)), consVal(one, two))
	// In the order in which they stand, whatever is within what.
	checkMatch(t, tuple(cons(z, tuple(y)), x), tupleVal(consVal(one, tupleVal(two)), three), []impl.Bind{bind("W", one)},
		[]impl.Bind{bind("W", one), bind("Z", one), bind("Y", two), bind("X", three)})
	kids, pats, want := []impl.Val{}, []impl.Exp{}, []impl.Bind{}
	for i := range 20 {
		kids, pats = append(kids, numVal(i)), append(pats, variable(numbered("V")(i)))
		want = append(want, bind(numbered("V")(i), numVal(i)))
	}
	checkMatch(t, tuple(pats...), tupleVal(kids...), nil, want)
	checkNoMatch(t, tuple(pats...), tupleVal(append(kids, one)...))
}

func TestMatchWithNamesThatAreBound(t *testing.T) {
	one, two := numVal(1), numVal(2)
	x, y := variable("X"), variable("Y")
	env := []impl.Bind{bind("X", one), bind("Y", tupleVal(two))}
	checkMatch(t, x, one, env, env)
	checkNoMatch(t, x, two, env...)
	checkNoMatch(t, x, atomVal("a"), env...)
	checkMatch(t, y, tupleVal(two), env, env)
	checkNoMatch(t, y, tupleVal(one), env...)
	checkNoMatch(t, y, tupleVal(two, two), env...)
	checkMatch(t, tuple(x, y, variable("Z")), tupleVal(one, tupleVal(two), two), env, []impl.Bind{env[0], env[1], bind("Z", two)})
	checkNoMatch(t, tuple(variable("Z"), x), tupleVal(two, two), env...)
	// A name that stands twice is bound by the first of both.
	checkMatch(t, tuple(x, x), tupleVal(one, one), nil, []impl.Bind{bind("X", one)})
	checkNoMatch(t, tuple(x, x), tupleVal(one, two))
	checkMatch(t, cons(x, cons(y, x)), consVal(one, consVal(two, one)), nil, []impl.Bind{bind("X", one), bind("Y", two)})
	checkNoMatch(t, cons(x, cons(y, x)), consVal(one, consVal(two, two)))
	checkMatch(t, tuple(x, x), tupleVal(one, one), env, env)
	checkNoMatch(t, tuple(x, x), tupleVal(two, two), env...)
	checkMatch(t, tuple(x, tuple(x)), tupleVal(tupleVal(one), tupleVal(tupleVal(one))), nil, []impl.Bind{bind("X", tupleVal(one))})
	// Of a name that is bound twice the first counts; both are told.
	twice := []impl.Bind{bind("X", one), bind("X", two), bind("X", one)}
	checkMatch(t, x, one, twice, twice)
	checkNoMatch(t, x, two, twice...)
	checkMatch(t, tuple(y, x), tupleVal(two, one), twice, append(slices.Clone(twice), bind("Y", two)))
	// _ is no name, whatever is bound; names are told apart by all their bytes.
	checkMatch(t, tuple(anyOne(), anyOne()), tupleVal(one, two), nil, nil)
	checkMatch(t, anyOne(), two, []impl.Bind{bind("", one), bind("_", one)}, []impl.Bind{bind("", one), bind("_", one)})
	checkMatch(t, tuple(x, variable("X1"), variable("XX")), tupleVal(one, two, nilVal()), nil, []impl.Bind{bind("X", one), bind("X1", two), bind("XX", nilVal())})
}

func TestMatchOfNoPattern(t *testing.T) {
	one, pair := numVal(1), tupleVal(numVal(1), numVal(1))
	for _, e := range []impl.Exp{
		op("+", num(1), num(1)), call("", "f"), call("m", "f", num(1)), match(variable("X"), num(1)), cases(num(1), clause(only(num(1)), num(1))),
		{Kind: -1}, {Kind: 11}, {Kind: math.MinInt}, {Kind: math.MaxInt, N: 1, Text: "a"}, {Kind: impl.ExOp}, {Kind: impl.ExMatch}, {Kind: impl.ExCase},
	} {
		for _, k := range append(ladder, one, pair) {
			checkNoMatch(t, e, k)
		}
		checkNoMatch(t, e, one, bind("X", one))
		checkNoMatch(t, tuple(variable("X"), e), pair)
		checkNoMatch(t, tuple(e, variable("X")), pair, bind("Y", one))
		checkNoMatch(t, cons(variable("X"), e), consVal(one, one))
		checkNoMatch(t, cons(e, anyOne()), consVal(one, one))
	}
	// A list's pattern without a head and a tail.
	for count := range 5 {
		pat := impl.Exp{Kind: impl.ExCons, Kids: slices.Repeat(only(anyOne()), count)}
		v := impl.Val{Kind: impl.VCons, Kids: slices.Repeat([]impl.Val{one}, count)}
		if count == 2 {
			checkMatch(t, pat, v, nil, nil)
			continue
		}
		checkNoMatch(t, pat, v)
		checkNoMatch(t, pat, consVal(one, one))
		checkNoMatch(t, cons(anyOne(), anyOne()), v)
	}
	checkNoMatch(t, tuple(), tupleVal(one))
	checkNoMatch(t, tuple(), one)
}

// What is no value fits _ and a name, and is bound as it is.
func TestMatchOfNoValue(t *testing.T) {
	for _, v := range ladder {
		checkMatch(t, anyOne(), v, nil, nil)
		checkMatch(t, variable("X"), v, nil, []impl.Bind{bind("X", v)})
		checkMatch(t, tuple(variable("X"), variable("X")), tupleVal(v, v), nil, []impl.Bind{bind("X", v)})
	}
	for _, kind := range []int{-1, 5, 7, math.MaxInt} {
		v := impl.Val{Kind: kind, N: 1, Text: "a", Kids: []impl.Val{numVal(1), numVal(2)}}
		for _, pat := range []impl.Exp{num(1), atom("a"), tuple(anyOne(), anyOne()), none(), cons(anyOne(), anyOne())} {
			checkNoMatch(t, pat, v)
		}
	}
}

// slowMatch takes value and pattern apart first, and asks for the names then.
func slowMatch(pat impl.Exp, v impl.Val, env []impl.Bind) ([]impl.Bind, bool) {
	wanted, ok := apart(pat, v)
	if !ok {
		return nil, false
	}
	list := slices.Clone(env)
	for _, w := range wanted {
		i := slices.IndexFunc(list, func(b impl.Bind) bool { return b.Name == w.Name })
		if i < 0 {
			list = append(list, w)
		} else if plain(list[i].Val) != plain(w.Val) {
			return nil, false
		}
	}
	return list, true
}

func apart(pat impl.Exp, v impl.Val) ([]impl.Bind, bool) {
	if pat.Kind == impl.ExVar {
		return []impl.Bind{bind(pat.Text, v)}, true
	}
	if pat.Kind == impl.ExAny {
		return nil, true
	}
	kinds := map[int]int{impl.ExNum: impl.VNum, impl.ExAtom: impl.VAtom, impl.ExTuple: impl.VTuple, impl.ExNil: impl.VNil, impl.ExCons: impl.VCons}
	kind, ok := kinds[pat.Kind]
	if !ok || kind != v.Kind || pat.N != v.N || pat.Text != v.Text || len(pat.Kids) != len(v.Kids) {
		return nil, false
	}
	list := []impl.Bind{}
	for i, kid := range pat.Kids {
		more, ok := apart(kid, v.Kids[i])
		if !ok {
			return nil, false
		}
		list = append(list, more...)
	}
	return list, true
}

// P3: what fits a pattern fits it again with what was bound, and nothing more is bound then.
func TestWhatFitsFitsAgain(t *testing.T) {
	m := newMaker(33)
	fits, fitsNot, bound := 0, 0, 0
	for range 20000 {
		v := m.val(3)
		pat, env := m.patternOf(v), m.binds(v)
		want, ok := slowMatch(pat, v, env)
		if !ok {
			fitsNot++
			checkNoMatch(t, pat, v, env...)
			continue
		}
		fits++
		checkMatch(t, pat, v, env, want)
		found, _ := impl.Match(pat, v, env)
		checkMatch(t, pat, v, found, found)
		bound += len(found) - len(env)
		for _, b := range found[len(env):] {
			if got, ok := impl.Lookup(found, b.Name); !ok || plain(got) != plain(b.Val) {
				t.Errorf("%s is %v, not %v", b.Name, got, b.Val)
			}
		}
	}
	if fits < 3000 || fitsNot < 1500 || bound < 3000 {
		t.Error("too few of a kind", fits, fitsNot, bound)
	}
}

func TestLookup(t *testing.T) {
	env := []impl.Bind{bind("X", numVal(1)), bind("Y", tupleVal(atomVal("a"))), bind("X", numVal(2)), bind("", nilVal()), bind("Odd", impl.Val{Kind: 9, N: 1, Text: "A", Kids: []impl.Val{nilVal()}})}
	for name, want := range map[string]impl.Val{"X": numVal(1), "Y": tupleVal(atomVal("a")), "": nilVal(), "Odd": env[4].Val} {
		if got, ok := impl.Lookup(env, name); !ok || plain(got) != plain(want) {
			t.Errorf("Lookup of %q is %v, %v", name, got, ok)
		}
	}
	for _, name := range []string{"Z", "x", "XX", " X", "_"} {
		checkUnbound(t, env, name)
	}
	checkUnbound(t, nil, "X")
	checkUnbound(t, nil, "")
	checkUnbound(t, env[1:2], "X")
	// What stands in the room behind a list is not bound.
	checkUnbound(t, env[:0], "X")
}

func checkUnbound(t *testing.T, env []impl.Bind, name string) {
	t.Helper()
	if got, ok := impl.Lookup(env, name); ok || plain(got) != plain(impl.Val{}) {
		t.Errorf("Lookup of %q in %v is %v, %v", name, env, got, ok)
	}
}

func checkReckon(t *testing.T, sign string, a, b, want impl.Val) {
	t.Helper()
	if got, ok := impl.Reckon(sign, a, b); !ok || plain(got) != plain(want) {
		t.Errorf("Reckon of %v %s %v is %v, %v, not %v", a, sign, b, got, ok, want)
	}
}

func checkNoReckon(t *testing.T, sign string, a, b impl.Val) {
	t.Helper()
	if got, ok := impl.Reckon(sign, a, b); ok || plain(got) != plain(impl.Val{}) {
		t.Errorf("Reckon of %v %q %v is %v, %v", a, sign, b, got, ok)
	}
}

func TestReckonNumbers(t *testing.T) {
	const least, most = math.MinInt, math.MaxInt
	for _, c := range []struct {
		a    int
		sign string
		b    int
		want int
	}{
		{2, "+", 3, 5}, {2, "-", 3, -1}, {3, "-", 2, 1}, {2, "*", 3, 6}, {-2, "*", 3, -6}, {-2, "*", -3, 6},
		{0, "+", 0, 0}, {0, "-", 0, 0}, {0, "*", 5, 0}, {-7, "+", 7, 0}, {999999999, "*", 999999999, 999999998000000001},
		{most, "+", 1, least}, {most, "+", most, -2}, {least, "+", least, 0}, {least, "+", -1, most}, {most, "+", 0, most},
		{least, "-", 1, most}, {0, "-", least, least}, {most, "-", -1, least}, {-1, "-", most, least}, {-2, "-", most, most},
		{most, "*", 2, -2}, {least, "*", 2, 0}, {least, "*", -1, least}, {most, "*", most, 1}, {1 << 32, "*", 1 << 32, 0}, {1 << 32, "*", 1 << 31, least}, {most, "*", -1, -most},
	} {
		checkReckon(t, c.sign, numVal(c.a), numVal(c.b), numVal(c.want))
	}
}

func TestReckonOrder(t *testing.T) {
	yes, no := atomVal("true"), atomVal("false")
	for i, a := range ladder {
		for k, b := range ladder {
			same, less := no, no
			if i == k {
				same = yes
			}
			if i < k {
				less = yes
			}
			checkReckon(t, "==", a, b, same)
			checkReckon(t, "<", a, b, less)
		}
	}
}

func TestReckonRefuses(t *testing.T) {
	number := numVal(3)
	for _, v := range ladder {
		if v.Kind == impl.VNum {
			continue
		}
		for _, sign := range []string{"+", "-", "*"} {
			checkNoReckon(t, sign, v, number)
			checkNoReckon(t, sign, number, v)
			checkNoReckon(t, sign, v, v)
		}
	}
	for _, sign := range []string{"", "/", "=", ">", "=<", "<=", "!=", "===", "<<", "++", "+ ", " +", "->", "a", "\xff"} {
		checkNoReckon(t, sign, number, number)
		checkNoReckon(t, sign, atomVal("a"), number)
		checkNoReckon(t, sign, impl.Val{Kind: 5}, impl.Val{Kind: 5})
	}
}

// matching are the arguments of Match, as one thing.
type matching struct {
	Pat impl.Exp
	Val impl.Val
	Env []impl.Bind
}

func TestMatchMemory(t *testing.T) {
	pair := tupleVal(tupleVal(numVal(1)), consVal(atomVal("a"), nilVal()))
	shared := []impl.Val{pair, pair}
	env := []impl.Bind{bind("W", pair), bind("V", impl.Val{Kind: 9, Kids: shared}), bind("U", pair)}
	list := []matching{
		{variable("X"), pair, nil},
		{variable("X"), pair, env},
		{variable("W"), pair, env},
		{variable("W"), numVal(1), env},
		{anyOne(), pair, env},
		{tuple(variable("X"), variable("Y")), impl.Val{Kind: impl.VTuple, Kids: shared}, env},
		{tuple(variable("X"), variable("W")), impl.Val{Kind: impl.VTuple, Kids: shared}, env},
		{tuple(variable("X"), num(1)), impl.Val{Kind: impl.VTuple, Kids: shared}, env},
		{cons(variable("X"), cons(variable("Y"), variable("Z"))), consVal(pair, consVal(pair, pair)), env},
		{op("+", num(1), num(1)), pair, env},
	}
	m := newMaker(34)
	for range 300 {
		v := m.val(3)
		list = append(list, matching{m.patternOf(v), v, m.binds(v)})
	}
	for _, a := range list {
		checkUntouched(t, a, func(a matching) {
			found, _ := impl.Match(a.Pat, a.Val, a.Env)
			checkApart(t, found, a)
			spoil(found)
		})
		// Without room behind, and with lists that share their memory.
		found, _ := impl.Match(a.Pat, a.Val, a.Env)
		checkApart(t, found, a)
	}
}

// spoil writes into all that was answered, and into the room behind it.
func spoil(list []impl.Bind) {
	for i := range list {
		list[i].Name = "Spoilt"
		spoilVals(list[i].Val.Kids)
	}
	_ = append(list, bind("Spoilt", numVal(-9)))
}

func spoilVals(list []impl.Val) {
	for i := range list {
		spoilVals(list[i].Kids)
		list[i] = numVal(-9)
	}
	_ = append(list, numVal(-9))
}

// Two matches with one list that has room behind it do not see each other.
func TestMatchesApart(t *testing.T) {
	env := make([]impl.Bind, 1, 8)
	env[0] = bind("W", numVal(0))
	first, _ := impl.Match(variable("X"), numVal(1), env)
	second, _ := impl.Match(variable("Y"), numVal(2), env)
	if plain(first) != plain([]impl.Bind{env[0], bind("X", numVal(1))}) || plain(second) != plain([]impl.Bind{env[0], bind("Y", numVal(2))}) {
		t.Error("matches", first, second)
	}
	if plain(env[:8:8][1:]) != plain(make([]impl.Bind, 7)) {
		t.Error("the room behind", env[:8])
	}
}

func TestValueMemory(t *testing.T) {
	m := newMaker(35)
	for range 300 {
		a, b := m.val(3), m.oddVal(2)
		checkUntouched(t, []impl.Val{a, b, tupleVal(a, b)}, func(list []impl.Val) {
			for _, v := range list {
				impl.ValOk(v)
				impl.ValText(v)
				for _, sign := range append(madeOps, "/") {
					impl.CompareVal(v, list[0])
					got, _ := impl.Reckon(sign, v, list[0])
					checkApart(t, got, list)
				}
			}
		})
		checkUntouched(t, []impl.Bind{bind("X", a), bind("Y", tupleVal(b, b))}, func(env []impl.Bind) {
			for _, name := range []string{"X", "Y", "Z"} {
				got, _ := impl.Lookup(env, name)
				checkApart(t, got, env)
				spoilVals(got.Kids)
			}
		})
	}
	shared := []impl.Val{tupleVal(numVal(1))}
	got, _ := impl.Lookup([]impl.Bind{bind("X", tupleVal(impl.Val{Kind: impl.VTuple, Kids: shared}, impl.Val{Kind: impl.VTuple, Kids: shared}))}, "X")
	checkApart(t, got, shared)
}

// Whatever is handed in, there is an answer, and the same one each time.
func TestAnyValues(t *testing.T) {
	m := newMaker(36)
	for range 3000 {
		a, b, pat := m.oddVal(3), m.oddVal(2), m.exp(2, m.Intn(2) == 0)
		env := []impl.Bind{bind(pickOf(m, madeVars), b), bind("X", a)}
		tell := func() string {
			found, fits := impl.Match(pat, a, env)
			v, ok := impl.Lookup(found, "X")
			all := []any{impl.ValOk(a), impl.CompareVal(a, b), impl.ValText(a), found, fits, v, ok}
			for _, sign := range madeOps {
				got, ok := impl.Reckon(sign, a, b)
				all = append(all, got, ok)
			}
			return plain(all)
		}
		if first := tell(); first != tell() {
			t.Errorf("%v, %v, %v are told in two ways", a, b, pat)
		}
	}
}

func TestValueConstants(t *testing.T) {
	if got := []int{impl.VNum, impl.VAtom, impl.VTuple, impl.VNil, impl.VCons}; !slices.Equal(got, []int{0, 1, 2, 3, 4}) {
		t.Error("kinds", got)
	}
}
