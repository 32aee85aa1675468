package phrase_test

import (
	"slices"
	"strconv"
	"strings"
	"testing"

	"clew/api"
	"clew/lex"
	"clew/phrase"
	"clew/tree"
)

// The limits that the chapter names.
const (
	mostOpen  = 64
	mostDepth = 32
	mostArgs  = 8
)

// The words of the chapter: the operators in the order of their numbers, the words of ExSelf and of ExTree in that of their Op.
var (
	operators = strings.Fields("or and == != < <= > >= in + - * / %")
	selves    = strings.Fields("here player noun second number score")
	trees     = strings.Fields("parent child next")
)

// operatorLevel is the level of the operator with that text.
func operatorLevel(text string) int {
	levels := map[string]int{"or": 1, "and": 2, "+": 5, "-": 5, "*": 6, "/": 6, "%": 6}
	if level, ok := levels[text]; ok {
		return level
	}
	return 4
}

// level is Tight by its definition, for expressions that can be parsed.
func level(e api.Expr) int {
	switch e.Kind {
	case 5:
		return 3
	case 6:
		return operatorLevel(operators[e.Op-1])
	case 7:
		return 4
	case 4:
		return 7
	case 8:
		return 8
	}
	return 9
}

func number(n int) api.Expr      { return api.Expr{Kind: 1, Num: n} }
func named(s string) api.Expr    { return api.Expr{Kind: 3, Name: s} }
func neg(e api.Expr) api.Expr    { return api.Expr{Kind: 4, Args: []api.Expr{e}} }
func not(e api.Expr) api.Expr    { return api.Expr{Kind: 5, Args: []api.Expr{e}} }
func random(e api.Expr) api.Expr { return api.Expr{Kind: 11, Args: []api.Expr{e}} }
func self(op int) api.Expr       { return api.Expr{Kind: 12, Op: op} }
func title(e api.Expr) api.Expr  { return api.Expr{Kind: 13, Args: []api.Expr{e}} }

func has(e api.Expr, flag string) api.Expr {
	return api.Expr{Kind: 7, Name: flag, Args: []api.Expr{e}}
}
func prop(e api.Expr, name string) api.Expr {
	return api.Expr{Kind: 8, Name: name, Args: []api.Expr{e}}
}
func call(name string, args ...api.Expr) api.Expr {
	return api.Expr{Kind: 9, Name: name, Args: args}
}
func treeOf(op int, e api.Expr) api.Expr {
	return api.Expr{Kind: 10, Op: op, Args: []api.Expr{e}}
}

// bin is the operator with that text, of two operands.
func bin(a api.Expr, text string, b api.Expr) api.Expr {
	return api.Expr{Kind: 6, Op: 1 + slices.Index(operators, text), Args: []api.Expr{a, b}}
}

// definedText is Print by its definition.
func definedText(e api.Expr) string {
	var texts []string
	for _, arg := range e.Args {
		texts = append(texts, definedText(arg))
	}
	operand := func(i, least int) string {
		if level(e.Args[i]) >= least {
			return texts[i]
		}
		return "(" + texts[i] + ")"
	}
	list := "(" + strings.Join(texts, ", ") + ")"
	switch e.Kind {
	case 1:
		return strconv.Itoa(e.Num)
	case 4:
		return "-" + operand(0, 7)
	case 5:
		return "not " + operand(0, 3)
	case 6:
		n := level(e)
		if n == 4 {
			return operand(0, 5) + " " + operators[e.Op-1] + " " + operand(1, 5)
		}
		return operand(0, n) + " " + operators[e.Op-1] + " " + operand(1, n+1)
	case 7:
		return operand(0, 5) + " has " + e.Name
	case 8:
		return operand(0, 8) + "." + e.Name
	case 9:
		return e.Name + list
	case 10:
		return trees[e.Op-1] + list
	case 11:
		return "random" + list
	case 12:
		return selves[e.Op-1]
	}
	return e.Name
}

// outcome is what Parse returns.
type outcome struct {
	e    api.Expr
	used int
	fail api.Fail
}

// reading is an expression and the level of the tokens that were read as it, which is 9 for those in parentheses; the zero value: no expression.
type reading struct {
	e     api.Expr
	level int
}

// definition reads lists of tokens by trying all ways of dividing them, without the limits of depths and counts.
type definition struct {
	t      *testing.T
	tokens []api.Tok
	known  map[[2]int]reading // what the tokens from one index to another are
}

// is reports whether the token at i is the keyword or sign s.
func (d definition) is(i int, s string) bool {
	tok := d.tokens[i]
	return tok.Text == s && (tok.Kind == 4 || tok.Kind == 5)
}

// span is what the tokens from i to j are together.
func (d definition) span(i, j int) reading {
	if i >= j {
		return reading{}
	}
	r, ok := d.known[[2]int{i, j}]
	if !ok {
		r = d.only(i, j)
		d.known[[2]int{i, j}] = r
	}
	return r
}

// only is what the tokens from i to j are; it fails the test if that is not unique.
func (d definition) only(i, j int) reading {
	list := d.operations(i, j)
	if e, ok := d.primary(i, j); ok {
		list = append(list, reading{e, 9})
	}
	switch len(list) {
	case 0:
		return reading{}
	case 1:
		return list[0]
	}
	d.t.Fatalf("%s can be read in %d ways", lex.Print(d.tokens[i:j]), len(list))
	return reading{}
}

// primary is what the tokens from i to j are on level 9.
func (d definition) primary(i, j int) (api.Expr, bool) {
	if j == i+1 {
		return d.single(d.tokens[i])
	}
	if !d.is(j-1, ")") {
		return api.Expr{}, false
	}
	if inner := d.span(i+1, j-1); d.is(i, "(") {
		return inner.e, inner.level > 0
	}
	if !d.is(i+1, "(") {
		return api.Expr{}, false
	}
	first := d.tokens[i]
	if first.Kind == 1 {
		args, ok := d.args(i+2, j-1)
		return call(first.Text, args...), ok
	}
	inner := d.span(i+2, j-1)
	switch op := 1 + slices.Index(trees, first.Text); {
	case first.Kind != 4 || inner.level == 0:
	case op > 0:
		return treeOf(op, inner.e), true
	case first.Text == "random":
		return random(inner.e), true
	}
	return api.Expr{}, false
}

// single is what one token is.
func (d definition) single(tok api.Tok) (api.Expr, bool) {
	switch op := 1 + slices.Index(selves, tok.Text); {
	case tok.Kind == 1:
		return named(tok.Text), true
	case tok.Kind == 2:
		return number(tok.Num), true
	case tok.Kind == 4 && op > 0:
		return self(op), true
	}
	return api.Expr{}, false
}

// args is the arguments that the tokens from i to j are.
func (d definition) args(i, j int) ([]api.Expr, bool) {
	if i == j {
		return nil, true
	}
	for k := i + 1; k <= j; k++ {
		first := d.span(i, k)
		switch {
		case first.level == 0:
		case k == j:
			return []api.Expr{first.e}, true
		case d.is(k, ","):
			if rest, ok := d.args(k+1, j); ok && len(rest) > 0 {
				return append([]api.Expr{first.e}, rest...), true
			}
		}
	}
	return nil, false
}

// operations is what the tokens from i to j can be on the levels below 9.
func (d definition) operations(i, j int) []reading {
	var list []reading
	add := func(e api.Expr) { list = append(list, reading{e, level(e)}) }
	behind, ahead, last := d.span(i+1, j), d.span(i, j-2), d.tokens[j-1]
	if d.is(i, "-") && behind.level >= 7 {
		add(neg(behind.e))
	}
	if d.is(i, "not") && behind.level >= 3 {
		add(not(behind.e))
	}
	if last.Kind == 1 && ahead.level >= 8 && d.is(j-2, ".") {
		add(prop(ahead.e, last.Text))
	}
	if last.Kind == 1 && ahead.level > 4 && d.is(j-2, "has") {
		add(has(ahead.e, last.Text))
	}
	for k := i + 1; k < j-1; k++ {
		text := d.tokens[k].Text
		if !slices.Contains(operators, text) || !d.is(k, text) {
			continue
		}
		left, right, n := d.span(i, k), d.span(k+1, j), operatorLevel(text)
		if right.level > n && (left.level > n || left.level == n && n != 4) {
			add(bin(left.e, text, right.e))
		}
	}
	return list
}

// reader answers questions about lists of tokens by their definition, and remembers the answers.
type reader struct {
	t      *testing.T
	viable map[string]bool
}

func newReader(t *testing.T) reader { return reader{t, map[string]bool{}} }

// exactly is the expression that l is as a whole.
func (r reader) exactly(l []api.Tok) (api.Expr, bool) {
	whole := definition{r.t, l, map[[2]int]reading{}}.span(0, len(l))
	return whole.e, whole.level > 0
}

// begins reports whether some expression begins with l.
func (r reader) begins(l []api.Tok) bool {
	key := keyOf(l)
	found, ok := r.viable[key]
	if !ok {
		found = r.canEnd(l)
		r.viable[key] = found
	}
	return found
}

// canEnd reports whether an operand and the closing parentheses that are missing make l an expression; whatever begins an expression can be ended so.
func (r reader) canEnd(l []api.Tok) bool {
	for _, missing := range []string{"", "a", "(a"} {
		whole := slices.Concat(l, tokens(missing))
		open := 0
		for _, tok := range whole {
			switch {
			case tok.Kind == 5 && tok.Text == "(":
				open++
			case tok.Kind == 5 && tok.Text == ")":
				open--
			}
		}
		whole = append(whole, slices.Repeat(tokens(")"), max(open, 0))...)
		if _, ok := r.exactly(whole); ok {
			return true
		}
	}
	return false
}

// parse is Parse by its definition: the expression is as long as what an expression can begin with, and if that is none, the next token fails.
func (r reader) parse(l []api.Tok) outcome {
	k := 0
	for k < len(l) && r.begins(l[:k+1]) {
		k++
	}
	if e, ok := r.exactly(l[:k]); ok {
		return outcome{e: e, used: k}
	}
	switch {
	case k == len(l):
		return outcome{fail: api.Fail{Err: api.ErrShort}}
	case l[k].Kind == 0:
		return outcome{fail: api.Fail{Err: api.ErrShort, Line: l[k].Line, Col: l[k].Col}}
	}
	return outcome{fail: api.Fail{Err: api.ErrToken, Line: l[k].Line, Col: l[k].Col}}
}

// keyOf is a string that differs for tokens that differ apart from their positions.
func keyOf(l []api.Tok) string {
	key := ""
	for _, tok := range l {
		key += strconv.Itoa(tok.Kind) + " " + strconv.Itoa(tok.Num) + " " + strconv.Quote(tok.Text) + " "
	}
	return key
}

// tokens is the tokens of s without the TokEnd.
func tokens(s string) []api.Tok {
	l, fail := lex.All(s)
	if fail != (api.Fail{}) {
		panic(s)
	}
	return l[:len(l)-1]
}

// placed is the tokens with positions that differ from one another.
func placed(l []api.Tok) []api.Tok {
	l = slices.Clone(l)
	for i := range l {
		l[i].Line, l[i].Col = 7+i/3, 20+5*i
	}
	return l
}

// shown is tokens for a message.
func shown(l []api.Tok) string {
	s := lex.Print(l)
	return s[:min(len(s), 200)] + " (" + strconv.Itoa(len(l)) + " tokens)"
}

func parse(l []api.Tok) outcome {
	e, used, fail := phrase.Parse(l)
	return outcome{e, used, fail}
}

// same reports whether two outcomes are equal.
func same(a, b outcome) bool {
	return tree.Same(a.e, b.e) && a.used == b.used && a.fail == b.fail
}

func checkOutcome(t *testing.T, l []api.Tok, want outcome) {
	t.Helper()
	if got := parse(l); !same(got, want) {
		t.Fatalf("Parse(%s) = %+v, want %+v", shown(l), got, want)
	}
}

// checkParse checks the expression at the beginning of src, and how many tokens it has.
func checkParse(t *testing.T, src string, used int, want api.Expr) {
	t.Helper()
	checkOutcome(t, append(tokens(src), api.Tok{Line: 9, Col: 9}), outcome{e: want, used: used})
}

// checkWhole checks the expression that src is as a whole.
func checkWhole(t *testing.T, src string, want api.Expr) {
	t.Helper()
	checkParse(t, src, len(tokens(src)), want)
}

// checkFail checks the error of src, whose column is that of a byte on its only line, counted from 1.
func checkFail(t *testing.T, src string, err api.Errno, col int) {
	t.Helper()
	l, _ := lex.All(src)
	checkOutcome(t, l, outcome{fail: api.Fail{Err: err, Line: 1, Col: col}})
}

// checkFailAt is checkFail at the last occurrence of mark in src.
func checkFailAt(t *testing.T, src string, err api.Errno, mark string) {
	t.Helper()
	checkFail(t, src, err, 1+strings.LastIndex(src, mark))
}

// checkPasses checks that src is one expression without an error.
func checkPasses(t *testing.T, src string) {
	t.Helper()
	l := tokens(src)
	if got := parse(l); got.fail != (api.Fail{}) || got.used != len(l) {
		t.Fatalf("Parse(%s) = %d, %+v", shown(l), got.used, got.fail)
	}
}

// checkDefined checks Parse of a short list against its definition, also with a TokEnd behind it.
func checkDefined(t *testing.T, r reader, l []api.Tok) {
	t.Helper()
	checkOutcome(t, l, r.parse(l))
	ended := append(slices.Clone(l), api.Tok{Line: 99, Col: 98})
	checkOutcome(t, ended, r.parse(ended))
}

// checkPrint checks the text of e, and that Parse of its tokens returns e.
func checkPrint(t *testing.T, e api.Expr, want string) {
	t.Helper()
	if got := phrase.Print(e); got != want {
		t.Fatalf("Print(%+v) = %q, want %q", e, got, want)
	}
	checkWhole(t, want, e)
}

// checkDefinedPrint checks Print of e against its definition.
func checkDefinedPrint(t *testing.T, e api.Expr) {
	t.Helper()
	checkPrint(t, e, definedText(e))
}

// samples is expressions of every level, at least one of each kind and one of each operator.
func samples() []api.Expr {
	a, b := named("a"), named("b")
	list := []api.Expr{
		number(0), number(32767), named("lamp_2"), neg(a), neg(number(5)), neg(neg(b)), not(a), not(not(b)),
		has(a, "lit"), has(bin(a, "+", b), "open"), prop(a, "size"), prop(prop(b, "x"), "y"), prop(number(7), "size"),
		call("f"), call("f", a), call("g", bin(a, "or", b), not(b), neg(a)), random(number(6)), random(bin(a, "and", b)),
		neg(prop(a, "size")), prop(neg(a), "size"), not(bin(a, "in", b)), bin(not(a), "in", b), not(bin(a, "or", b)),
	}
	for op := range operators {
		list = append(list, bin(a, operators[op], b))
	}
	for op := range selves {
		list = append(list, self(op+1))
	}
	for op := range trees {
		list = append(list, treeOf(op+1, a))
	}
	return list
}

func TestPromise11_1Examples(t *testing.T) {
	a, b, c := named("a"), named("b"), named("c")
	checkParse(t, "a + 2 * b == c", 7, bin(bin(a, "+", bin(number(2), "*", b)), "==", c))
	checkParse(t, "a == b == c", 3, bin(a, "==", b))
	checkParse(t, "not a in b", 4, not(bin(a, "in", b)))
}

func TestPromise11_1TightOfEachKind(t *testing.T) {
	want := map[int]int{1: 9, 3: 9, 4: 7, 5: 3, 7: 4, 8: 8, 9: 9, 10: 9, 11: 9, 12: 9}
	for kind := -3; kind <= 40; kind++ {
		if got := phrase.Tight(api.Expr{Kind: kind}); got != want[kind] {
			t.Fatalf("Tight of kind %d = %d, want %d", kind, got, want[kind])
		}
	}
	for _, kind := range []int{-1 << 62, -256, 255, 256, 257, 65537, 1<<32 + 1, 1 << 62} {
		if got := phrase.Tight(api.Expr{Kind: kind}); got != 0 {
			t.Fatalf("Tight of kind %d = %d", kind, got)
		}
	}
	for _, e := range samples() {
		if got, want := phrase.Tight(e), level(e); got != want {
			t.Fatalf("Tight(%+v) = %d, want %d", e, got, want)
		}
	}
	for _, e := range []api.Expr{{Kind: 2, Name: "a"}, title(named("a")), {Kind: 14, Num: 1}, {Kind: 19, Num: 2}} {
		if got := phrase.Tight(e); got != 0 {
			t.Fatalf("Tight(%+v) = %d", e, got)
		}
	}
}

func TestPromise11_1TightOfEachOperator(t *testing.T) {
	for op := -2; op <= 30; op++ {
		want := 0
		if op >= 1 && op <= 14 {
			want = operatorLevel(operators[op-1])
		}
		operands := []api.Expr{named("a"), number(1)}
		for _, e := range []api.Expr{{Kind: 6, Op: op}, {Kind: 6, Op: op, Args: operands}} {
			if got := phrase.Tight(e); got != want {
				t.Fatalf("Tight of operator %d = %d, want %d", op, got, want)
			}
		}
	}
	for _, op := range []int{-1 << 62, 256, 257, 1<<32 + 1, 1 << 62} {
		if got := phrase.Tight(api.Expr{Kind: 6, Op: op}); got != 0 {
			t.Fatalf("Tight of operator %d = %d", op, got)
		}
	}
}

func TestPromise11_1Primaries(t *testing.T) {
	a := named("a")
	checkWhole(t, "5", number(5))
	checkWhole(t, "0", number(0))
	checkWhole(t, "32767", number(32767))
	checkWhole(t, "a", a)
	checkWhole(t, "(a)", a)
	checkWhole(t, "(((a)))", a)
	for i, word := range selves {
		checkWhole(t, word, self(i+1))
		checkParse(t, word+"(a)", 1, self(i+1))
	}
	for i, word := range trees {
		checkWhole(t, word+"(a)", treeOf(i+1, a))
		checkWhole(t, word+"((a))", treeOf(i+1, a))
		checkWhole(t, word+"("+word+"(a))", treeOf(i+1, treeOf(i+1, a)))
		checkParse(t, word+"(a)(a)", 4, treeOf(i+1, a))
	}
	checkWhole(t, "random(a)", random(a))
	checkWhole(t, "random(a or a)", random(bin(a, "or", a)))
	checkParse(t, "5(a)", 1, number(5))
	checkParse(t, "(a)(a)", 3, a)
}

func TestPromise11_1Calls(t *testing.T) {
	var args []api.Expr
	src := "f("
	for i := range mostArgs + 1 {
		checkWhole(t, src+")", call("f", args...))
		if i == mostArgs {
			break
		}
		if i > 0 {
			src += ", "
		}
		src += strconv.Itoa(i)
		args = append(args, number(i))
	}
	checkWhole(t, "f(not a, b or c, g(1), (2), -3)", call("f", not(named("a")), bin(named("b"), "or", named("c")), call("g", number(1)), number(2), neg(number(3))))
	checkParse(t, "f()()", 3, call("f"))
	checkParse(t, "f (a) (b)", 4, call("f", named("a")))
	checkParse(t, "f(a), b", 4, call("f", named("a")))
}

func TestPromise11_1WhatMustFollowAPrimary(t *testing.T) {
	for _, word := range slices.Concat(trees, []string{"random"}) {
		checkFail(t, word, api.ErrShort, 1+len(word))
		checkFailAt(t, word+" a", api.ErrToken, "a")
		checkFailAt(t, word+" 5", api.ErrToken, "5")
		checkFailAt(t, word+" )", api.ErrToken, ")")
		checkFailAt(t, word+" + a", api.ErrToken, "+")
		checkFailAt(t, word+" "+word, api.ErrToken, word)
		checkFailAt(t, word+"()", api.ErrToken, ")")
		checkFailAt(t, word+"(a, b)", api.ErrToken, ",")
		checkFailAt(t, word+"(a b)", api.ErrToken, "b")
		checkFail(t, word+"(", api.ErrShort, 2+len(word))
		checkFail(t, word+"(a", api.ErrShort, 3+len(word))
	}
	checkFail(t, "(", api.ErrShort, 2)
	checkFail(t, "(a", api.ErrShort, 3)
	checkFail(t, "((a)", api.ErrShort, 5)
	checkFailAt(t, "()", api.ErrToken, ")")
	checkFailAt(t, "(a;)", api.ErrToken, ";")
	checkFailAt(t, "(a, b)", api.ErrToken, ",")
	checkFailAt(t, "(a 5)", api.ErrToken, "5")
	checkFailAt(t, "(a == b == c)", api.ErrToken, "== c")
	checkFailAt(t, "(a has lit + c)", api.ErrToken, "+")
	checkFail(t, "f(", api.ErrShort, 3)
	checkFail(t, "f(a", api.ErrShort, 4)
	checkFail(t, "f(a,", api.ErrShort, 5)
	checkFailAt(t, "f(a,)", api.ErrToken, ")")
	checkFailAt(t, "f(,", api.ErrToken, ",")
	checkFailAt(t, "f(,a)", api.ErrToken, ",a")
	checkFailAt(t, "f(a,,b)", api.ErrToken, ",b")
	checkFailAt(t, "f(a b)", api.ErrToken, "b")
	checkFailAt(t, "f(a; b)", api.ErrToken, ";")
	checkFailAt(t, "f(1 < 2 < 3)", api.ErrToken, "< 3")
}

func TestPromise11_1WhatMustFollowHasAndAPoint(t *testing.T) {
	a := named("a")
	checkWhole(t, "a has lit", has(a, "lit"))
	checkWhole(t, "a.size", prop(a, "size"))
	checkWhole(t, "5 . x . y", prop(prop(number(5), "x"), "y"))
	checkParse(t, "a has f(b)", 3, has(a, "f"))
	checkParse(t, "a.f(b)", 3, prop(a, "f"))
	for _, word := range []string{" has ", " . "} {
		checkFail(t, "a"+word, api.ErrShort, 2+len(word))
		for _, next := range []string{"5", "(lit)", ";", "not", `"lit"`, "here", "in", "+", "-", ".", "has", ")", "story"} {
			checkFail(t, "a"+word+next, api.ErrToken, 2+len(word))
		}
	}
}

func TestPromise11_1WhatCannotBegin(t *testing.T) {
	for _, src := range []string{"+ a", "* a", "== a", "has lit", ". size", "in a", "or a", "and a", ") a", ", a", "; a", "| a", "/ a", "% a", "= a", "{ a", "} a", "<= a", `"a"`, "title(a)", "say a", "is a", "if a", "north", "any", "else"} {
		checkFail(t, src, api.ErrToken, 1)
		checkFail(t, "("+src, api.ErrToken, 2)
		checkFail(t, "- "+src, api.ErrToken, 3)
		checkFail(t, "not "+src, api.ErrToken, 5)
		checkFail(t, "a * "+src, api.ErrToken, 5)
	}
	checkFail(t, "", api.ErrShort, 1)
	checkFail(t, "-", api.ErrShort, 2)
	checkFail(t, "not", api.ErrShort, 4)
	checkFail(t, "--not a", api.ErrToken, 3)
	checkFail(t, "a - - not a", api.ErrToken, 7)
}

func TestPromise11_1WhereAnExpressionEnds(t *testing.T) {
	a, b := named("a"), named("b")
	for _, next := range []string{"", ";", "b", "5", "not b", `"b"`, "here", "title(b)", "parent(b)", ")", ",", "{", "}", "=", "= 5", "|", "is", "to b", "if", "else", "random", "north", "not"} {
		checkParse(t, "a "+next, 1, a)
		checkParse(t, "a + b "+next, 3, bin(a, "+", b))
		checkParse(t, "not a.x "+next, 4, not(prop(a, "x")))
		checkParse(t, "(a) "+next, 3, a)
		checkParse(t, "a has lit "+next, 3, has(a, "lit"))
		checkParse(t, "f() "+next, 3, call("f"))
		checkParse(t, "score "+next, 1, self(6))
	}
	checkParse(t, "a (b)", 4, call("a", b))
}

func TestPromise11_1OperatorsOfLevel4AreNotAssociative(t *testing.T) {
	a, b, c := named("a"), named("b"), named("c")
	comparisons := []string{"==", "!=", "<", "<=", ">", ">=", "in"}
	for _, first := range comparisons {
		want := bin(a, first, b)
		for _, next := range append(comparisons, "has") {
			checkParse(t, "a "+first+" b "+next+" c", 3, want)
			checkParse(t, "not a "+first+" b "+next+" c", 4, not(want))
			checkParse(t, "c and a "+first+" b "+next+" c or c", 5, bin(c, "and", want))
			checkParse(t, "a "+first+" b "+next, 3, want)
			checkFailAt(t, "f(a "+first+" b "+next+" c)", api.ErrToken, next+" c")
			checkParse(t, "a has b "+next+" c", 3, has(a, "b"))
		}
		checkParse(t, "a "+first+" b + c == 1", 5, bin(a, first, bin(b, "+", c)))
		checkParse(t, "a "+first+" (b == c) == 1", 7, bin(a, first, bin(b, "==", c)))
		checkWhole(t, "(a "+first+" b) "+first+" c", bin(want, first, c))
		checkWhole(t, "a "+first+" b and c "+first+" b", bin(want, "and", bin(c, first, b)))
	}
	for _, next := range strings.Fields("+ - * / % .") {
		checkParse(t, "a has b "+next+" c", 3, has(a, "b"))
	}
}

func TestPromise11_1OperatorsOfLevels1And2And5And6AreLeftAssociative(t *testing.T) {
	a, b, c := named("a"), named("b"), named("c")
	for _, first := range operators {
		for _, second := range operators {
			switch n, m := operatorLevel(first), operatorLevel(second); {
			case n == 4 && m == 4:
			case n >= m:
				checkWhole(t, "a "+first+" b "+second+" c", bin(bin(a, first, b), second, c))
			default:
				checkWhole(t, "a "+first+" b "+second+" c", bin(a, first, bin(b, second, c)))
			}
			checkWhole(t, "(a "+first+" b) "+second+" c", bin(bin(a, first, b), second, c))
			checkWhole(t, "a "+first+" (b "+second+" c)", bin(a, first, bin(b, second, c)))
		}
	}
}

func TestPromise11_1UnaryOperators(t *testing.T) {
	a, b := named("a"), named("b")
	checkWhole(t, "--a", neg(neg(a)))
	checkWhole(t, "not not a", not(not(a)))
	checkWhole(t, "not -a", not(neg(a)))
	checkWhole(t, "-(not a)", neg(not(a)))
	checkWhole(t, "-a.x", neg(prop(a, "x")))
	checkWhole(t, "(-a).x", prop(neg(a), "x"))
	checkWhole(t, "-5", neg(number(5)))
	checkWhole(t, "a--b", bin(a, "-", neg(b)))
	checkWhole(t, "not a has lit", not(has(a, "lit")))
	checkWhole(t, "-a has lit", has(neg(a), "lit"))
	for _, text := range operators {
		checkWhole(t, "-a "+text+" b", bin(neg(a), text, b))
		checkWhole(t, "a "+text+" -b", bin(a, text, neg(b)))
		checkWhole(t, "a "+text+" (not b)", bin(a, text, not(b)))
		if operatorLevel(text) > 2 {
			checkWhole(t, "not a "+text+" b", not(bin(a, text, b)))
			checkFailAt(t, "a "+text+" not b", api.ErrToken, "not")
		} else {
			checkWhole(t, "not a "+text+" b", bin(not(a), text, b))
			checkWhole(t, "a "+text+" not b", bin(a, text, not(b)))
		}
		checkFail(t, "a "+text+" ", api.ErrShort, 4+len(text))
		checkFailAt(t, "a "+text+" ; b", api.ErrToken, ";")
		checkFailAt(t, "a "+text+" * b", api.ErrToken, "* b")
	}
}

// TestPromise11_1TheEnd checks lists with an end in the middle, and lists without any.
func TestPromise11_1TheEnd(t *testing.T) {
	checkOutcome(t, nil, outcome{fail: api.Fail{Err: api.ErrShort}})
	checkOutcome(t, []api.Tok{}, outcome{fail: api.Fail{Err: api.ErrShort}})
	for _, src := range []string{"(", "a +", "not", "-", "f(", "f(1,", "f(1", "(a", "a has", "a.", "parent", "random(", "a or b and"} {
		l := placed(tokens(src))
		checkOutcome(t, l, outcome{fail: api.Fail{Err: api.ErrShort}})
		end := api.Tok{Kind: 0, Text: "(", Num: 5, Line: 40, Col: 3}
		checkOutcome(t, append(slices.Clone(l), end), outcome{fail: api.Fail{Err: api.ErrShort, Line: 40, Col: 3}})
		checkOutcome(t, slices.Concat(l, []api.Tok{end}, tokens("a) + (b)")), outcome{fail: api.Fail{Err: api.ErrShort, Line: 40, Col: 3}})
	}
	for _, src := range []string{"a", "a + b", "f()", "(a)", "a.x", "a has lit", "a == b"} {
		l := tokens(src)
		want := parse(l)
		if want.used != len(l) {
			t.Fatalf("Parse(%s) uses %d tokens", shown(l), want.used)
		}
		checkOutcome(t, append(l, api.Tok{}), want)
		checkOutcome(t, slices.Concat(l, []api.Tok{{}}, tokens("+ a")), want)
		checkOutcome(t, slices.Concat(l, []api.Tok{{Kind: 0, Text: "+"}}, tokens("a")), want)
	}
}

// TestPromise11_1AnyTokens checks tokens that lex does not make.
func TestPromise11_1AnyTokens(t *testing.T) {
	a := named("a")
	odd := []api.Tok{
		{Kind: -1, Text: "+"}, {Kind: 6, Text: "+"}, {Kind: 99}, {Kind: 6, Text: "a"}, {Kind: 3, Text: "+"}, {Kind: 3, Text: "("}, {Kind: 3, Text: "or"},
		{Kind: 5}, {Kind: 4}, {Kind: 5, Text: "a"}, {Kind: 5, Text: "++"}, {Kind: 4, Text: "a"}, {Kind: 4, Text: "HAS"}, {Kind: 2, Text: "+"}, {Kind: 1, Text: "."}, {Kind: 4, Text: "not "},
	}
	for _, tok := range odd {
		tok.Line, tok.Col = 5, 6
		l := slices.Concat(tokens("a"), []api.Tok{tok}, tokens("b"))
		checkOutcome(t, l, outcome{e: a, used: 1})
		if tok.Kind != 1 && tok.Kind != 2 {
			checkOutcome(t, l[1:], outcome{fail: api.Fail{Err: api.ErrToken, Line: 5, Col: 6}})
		}
	}
	for _, n := range []int{-1, -32769, 32768, 1 << 40} {
		checkOutcome(t, []api.Tok{{Kind: 2, Num: n, Text: "x"}}, outcome{e: number(n), used: 1})
	}
	for _, s := range []string{"", "A", "a b", "(", strings.Repeat("x", 40)} {
		checkOutcome(t, []api.Tok{{Kind: 1, Text: s, Num: 4}}, outcome{e: named(s), used: 1})
		checkOutcome(t, append([]api.Tok{{Kind: 1, Text: s}}, tokens("(a)")...), outcome{e: call(s, a), used: 4})
		checkOutcome(t, append(tokens("a."), api.Tok{Kind: 1, Text: s}), outcome{e: prop(a, s), used: 3})
	}
	checkOutcome(t, []api.Tok{{Kind: 5, Text: "(", Line: -3, Col: -4}, {Kind: 5, Text: ")", Line: -5, Col: 0}}, outcome{fail: api.Fail{Err: api.ErrToken, Line: -5}})
}

// openings are what can be open, each with what closes it.
func openings() [][2]string {
	return [][2]string{{"(", ")"}, {"f(", ")"}, {"parent(", ")"}, {"child(", ")"}, {"next(", ")"}, {"random(", ")"}, {"not ", ""}, {"-", ""}, {"f(1, ", ")"}}
}

func TestPromise11_1OpenWithinOneAnother(t *testing.T) {
	for _, o := range openings() {
		opened := strings.Repeat(o[0], mostOpen)
		checkFail(t, opened, api.ErrShort, 1+len(opened))
		checkFailAt(t, opened+";", api.ErrToken, ";")
		place := len(opened) + 1
		switch i := strings.IndexByte(o[0], '('); i {
		case -1:
			checkFail(t, opened+o[0]+"a", api.ErrDepth, place)
			checkFail(t, opened+o[0], api.ErrDepth, place)
		default:
			checkFail(t, opened+o[0]+"a", api.ErrDepth, place+i)
			checkFail(t, opened+o[0][:i+1], api.ErrDepth, place+i)
			checkFail(t, opened+o[0]+";", api.ErrDepth, place+i)
		}
	}
	checkWhole(t, strings.Repeat("(", mostOpen)+"a"+strings.Repeat(")", mostOpen), named("a"))
	checkFail(t, strings.Repeat("(", mostOpen)+"parent", api.ErrShort, mostOpen+7)
	checkFailAt(t, strings.Repeat("(", mostOpen)+"parent a", api.ErrToken, "a")
	checkFailAt(t, strings.Repeat("(", mostOpen)+"random ; (", api.ErrToken, ";")
	checkFailAt(t, strings.Repeat("(", mostOpen)+"a * not b", api.ErrToken, "not")
	checkFail(t, strings.Repeat("(", mostOpen)+"f", api.ErrShort, mostOpen+2)
}

func TestPromise11_1OpenOfSeveralKinds(t *testing.T) {
	closed := func(n int) string { return strings.Repeat("(", n) + "a" + strings.Repeat(")", n) }
	for _, o := range openings() {
		checkPasses(t, o[0]+closed(mostOpen-1)+o[1])
		src := o[0] + closed(mostOpen)
		checkFail(t, src+o[1], api.ErrDepth, len(o[0])+mostOpen)
		inner := strings.Repeat("(", mostOpen-1) + o[0] + "a" + o[1]
		checkPasses(t, inner+strings.Repeat(")", mostOpen-1))
	}
	mixed := strings.Repeat("-(not f(1, (random(parent(", 8) // 7 within one another, 8 times
	checkFail(t, mixed+"(((((((", api.ErrShort, len(mixed)+8)
	checkFail(t, mixed+"((((((((((((((", api.ErrDepth, len(mixed)+9)
	checkFail(t, mixed+"--------- a", api.ErrDepth, len(mixed)+9)
	checkFailAt(t, mixed+"(((((((( child (", api.ErrDepth, "(")
}

// TestPromise11_1OpenEnds checks that what is closed counts no longer.
func TestPromise11_1OpenEnds(t *testing.T) {
	closed := func(n int) string { return strings.Repeat("(", n) + "a" + strings.Repeat(")", n) }
	full, over := closed(mostOpen), closed(mostOpen+1)
	for _, ahead := range []string{"-a + ", "(a) + ", "f(a) * ", "f() - ", "random(a) or ", "parent(a) == ", "not a and ", "--a in ", "-a.x < ", "not (a) or ", "f(-(a), not a) + "} {
		checkPasses(t, ahead+full)
		checkFail(t, ahead+over, api.ErrDepth, len(ahead)+mostOpen+1)
	}
	most := closed(mostOpen - 1)
	checkPasses(t, "f("+strings.Repeat(most+", ", mostArgs-1)+most+")")
	checkFailAt(t, "f("+most+", ("+most+"))", api.ErrDepth, "(a")
	checkPasses(t, full+" + "+full+" - "+full)
	checkFailAt(t, "not a == "+full, api.ErrDepth, "(a")
	checkFailAt(t, "-a + -"+full, api.ErrDepth, "(a")
}

// TestPromise11_1DepthOfOperators checks left-nested operators, of depth 32 and 33.
func TestPromise11_1DepthOfOperators(t *testing.T) {
	for _, text := range operators {
		if operatorLevel(text) == 4 {
			continue
		}
		most := "a" + strings.Repeat(" "+text+" b", mostDepth-1)
		checkPasses(t, most)
		place := len(most) + 2
		checkFail(t, most+" "+text+" b", api.ErrDepth, place)
		checkFail(t, most+" "+text+" b "+text+" b", api.ErrDepth, place)
		checkFail(t, most+" "+text+" (b)", api.ErrDepth, place)
		checkFail(t, most+" "+text+" (b ;", api.ErrToken, place+len(text)+4)
		checkFail(t, most+" "+text, api.ErrShort, place+len(text))
		checkFail(t, most+" "+text+" ;", api.ErrToken, place+len(text)+1)
	}
	sum := "a" + strings.Repeat(" + b", mostDepth-1)
	shorter := "a" + strings.Repeat(" + b", mostDepth-2)
	for _, text := range []string{"==", "!=", "<", "<=", ">", ">=", "in"} {
		checkPasses(t, shorter+" "+text+" b")
		checkPasses(t, "b "+text+" "+shorter)
		checkFailAt(t, sum+" "+text+" b", api.ErrDepth, text)
		checkFailAt(t, "b "+text+" "+sum, api.ErrDepth, text)
		checkFail(t, sum+" "+text, api.ErrShort, len(sum)+len(text)+2)
	}
	checkPasses(t, shorter+" has lit")
	checkFailAt(t, sum+" has lit", api.ErrDepth, "has")
	checkFailAt(t, sum+" has 5", api.ErrToken, "5")
	checkFailAt(t, "b - ("+sum+")", api.ErrDepth, "-")
	checkFail(t, "((((b) or ("+sum+"))))", api.ErrDepth, 8)
}

func TestPromise11_1DepthOfPropsAndPrefixes(t *testing.T) {
	point := "a" + strings.Repeat(".x", mostDepth-1)
	checkPasses(t, point)
	checkFailAt(t, point+".x", api.ErrDepth, ".")
	checkFail(t, point+".x.x.5", api.ErrDepth, len(point)+1)
	checkFailAt(t, point+".5", api.ErrToken, "5")
	checkFail(t, point+".", api.ErrShort, len(point)+2)
	for _, prefix := range []string{"-", "not "} {
		most := strings.Repeat(prefix, mostDepth-1)
		checkPasses(t, most+"a")
		checkFail(t, most+prefix+"a", api.ErrDepth, 1)
		checkFail(t, prefix+prefix+prefix+most+"a", api.ErrDepth, 1+2*len(prefix))
		checkFail(t, "("+most+prefix+"a)", api.ErrDepth, 2)
		checkFail(t, "a and "+most+prefix+"a", api.ErrDepth, 7)
		checkFail(t, most+prefix, api.ErrShort, 1+len(most+prefix))
		checkFailAt(t, most+prefix+";", api.ErrToken, ";")
		checkFail(t, most+"a.x", api.ErrDepth, 1)
		checkPasses(t, most[len(prefix):]+"a.x")
	}
	checkFail(t, "-"+point, api.ErrDepth, 1)
	checkFail(t, "not "+point, api.ErrDepth, 1)
	checkFailAt(t, point+" == b", api.ErrDepth, "==")
	checkPasses(t, "(("+point+"))")
}

func TestPromise11_1DepthOfCalls(t *testing.T) {
	point := "a" + strings.Repeat(".x", mostDepth-1)
	for _, word := range []string{"f(", "parent(", "child(", "next(", "random("} {
		most := strings.Repeat(word, mostDepth-1) + "a" + strings.Repeat(")", mostDepth-1)
		checkPasses(t, most)
		checkFail(t, word+most+")", api.ErrDepth, 1)
		checkFail(t, "b + "+word+word+word+most+")))", api.ErrDepth, 5+2*len(word))
		checkFail(t, word+most, api.ErrShort, 1+len(word+most))
		checkFailAt(t, word+most+";", api.ErrToken, ";")
		checkFail(t, "1 - "+word+point+")", api.ErrDepth, 5)
	}
	checkFail(t, "g(a, "+point+")", api.ErrDepth, 1)
	checkFail(t, "g(a, h("+point+"))", api.ErrDepth, 6)
	checkFail(t, "1 + h("+point+", ;", api.ErrToken, 9+len(point))
	checkPasses(t, "1 + h("+point[4:]+", 1)")
	checkPasses(t, strings.Repeat("f(", 31)+")"+strings.Repeat(")", 30))
	checkFail(t, strings.Repeat("f(", 33)+strings.Repeat(")", 33), api.ErrDepth, 1)
	checkPasses(t, strings.Repeat("f(", 32)+strings.Repeat(")", 32))
}

func TestPromise11_1TooManyArguments(t *testing.T) {
	list := func(n int) string { return "f(" + strings.TrimSuffix(strings.Repeat("1, ", n), ", ") }
	most := list(mostArgs)
	checkPasses(t, most+")")
	place := len(most) + 1
	for _, behind := range []string{", 9)", ", 9, 10)", ",)", ",", ", ;", ", , "} {
		checkFail(t, most+behind, api.ErrCount, place)
		checkFail(t, "a + "+most+behind, api.ErrCount, place+4)
		checkFail(t, "f("+most+behind, api.ErrCount, place+2)
	}
	checkFail(t, most, api.ErrShort, place)
	checkFailAt(t, most+";", api.ErrToken, ";")
	checkPasses(t, "f("+most+"), "+most+"))")
	checkFail(t, list(mostArgs-1)+", "+most+", 9), 10)", api.ErrCount, len(list(mostArgs-1)+", "+most)+1)
	checkFail(t, list(mostArgs-1)+", "+most+"), 10)", api.ErrCount, len(list(mostArgs-1)+", "+most)+2)
}

// TestPromise11_1WhichErrorIsTold checks that of several errors the first one is told, of what is complete first.
func TestPromise11_1WhichErrorIsTold(t *testing.T) {
	deep := "a" + strings.Repeat(".x", mostDepth) // too deep by itself, at its last point
	most := "a" + strings.Repeat(".x", mostDepth-1)
	open := strings.Repeat("(", mostOpen+1)
	ones := "f(1, 1, 1, 1, 1, 1, 1, 1,"
	checkFailAt(t, deep+" + ;", api.ErrDepth, ".")
	checkFailAt(t, deep+" + "+open, api.ErrDepth, ".")
	checkFail(t, "("+ones+" "+deep+" + ; "+open, api.ErrCount, 1+len(ones))
	checkFail(t, "f(; "+deep+" "+open, api.ErrToken, 3)
	checkFail(t, most+" == "+most+" == 1", api.ErrDepth, len(most)+2)
	checkFail(t, most+" == "+deep, api.ErrDepth, 4+len(most+deep)-1)
	checkFail(t, most+" == "+most+" + 1", api.ErrDepth, 6+2*len(most))
	checkFail(t, most+" == "+most+" + ;", api.ErrToken, 8+2*len(most))
	checkFail(t, "-"+most+" + ;", api.ErrDepth, 1)
	checkFail(t, "-("+most+" + ;", api.ErrToken, 6+len(most))
	checkFail(t, "f(1, 1, 1, 1, 1, 1, 1, "+deep+", 1)", api.ErrDepth, 23+len(deep)-1)
	checkFail(t, "f(1, 1, 1, 1, 1, 1, 1, "+most+", 1)", api.ErrCount, 24+len(most))
	checkFail(t, strings.Repeat("-", mostOpen)+ones, api.ErrDepth, mostOpen+2)
	checkFail(t, strings.Repeat("-", mostOpen)+"a + ;", api.ErrDepth, mostOpen-mostDepth+1)
	checkFail(t, open+";", api.ErrDepth, mostOpen+1)
	checkFail(t, open[1:]+";", api.ErrToken, mostOpen+1)
}

// alphabet is the tokens of which short lists are made.
func alphabet() []api.Tok {
	return append(tokens(`a 5 here parent + * - == in has not and or . ( ) , ; title "b"`), api.Tok{})
}

// TestPromise11_1AllShortLists checks every list of up to five tokens of the alphabet, as far as what follows its first wrong token matters.
func TestPromise11_1AllShortLists(t *testing.T) {
	r := newReader(t)
	checked := 0
	var explore func(l []api.Tok)
	explore = func(l []api.Tok) {
		for _, tok := range alphabet() {
			longer := placed(append(slices.Clone(l), tok))
			checkDefined(t, r, longer)
			checked++
			if !r.begins(longer) {
				checkOutcome(t, slices.Concat(longer, tokens("a + (b)")), r.parse(longer))
			} else if len(longer) < 5 {
				explore(longer)
			}
		}
	}
	checkDefined(t, r, nil)
	explore(nil)
	if checked < 10000 {
		t.Fatalf("only %d lists are checked", checked)
	}
}

// TestPromise11_1OperatorsBesideOneAnother checks every two operators, with prefixes ahead of each operand.
func TestPromise11_1OperatorsBesideOneAnother(t *testing.T) {
	r := newReader(t)
	middle := slices.Concat(operators, []string{"has", ".", ""})
	prefixes := []string{"", "not ", "-", "(", "f("}
	for _, first := range middle {
		for _, second := range middle {
			for i, p := range prefixes {
				for j, q := range prefixes {
					third := prefixes[(i*2+j)%len(prefixes)]
					l := placed(tokens(p + "a " + first + " " + q + "b " + second + " " + third + "c ) "))
					checkDefined(t, r, l)
				}
			}
		}
	}
}

// dice is random numbers, always the same ones.
type dice struct{ state uint64 }

func (d *dice) below(n int) int {
	d.state = d.state*6364136223846793005 + 1442695040888963407
	return int(d.state >> 33 % uint64(n))
}

// TestPromise11_1ListsAtRandom checks longer lists that are often almost expressions.
func TestPromise11_1ListsAtRandom(t *testing.T) {
	d := &dice{1}
	all := tokens(`a b f 5 0 here score noun parent child next random + - * / % == != < <= > >= in has not and or . ( ) ( ) ( ) , ; title "x" = say`)
	good := tokens("a + ( b ) - f ( c , not d ) or random ( 5 ) . x * - y has z and parent ( here ) == 7")
	for range 4000 {
		r := newReader(t)
		var l []api.Tok
		for at := d.below(len(good)); len(l) < 9; at++ {
			switch d.below(5) {
			case 0:
				l = append(l, all[d.below(len(all))])
			case 1:
				at = d.below(len(good))
			}
			l = append(l, good[at%len(good)])
		}
		checkDefined(t, r, placed(l[:d.below(len(l)+1)]))
	}
}

func TestPromise11_2Examples(t *testing.T) {
	a, b, c := named("a"), named("b"), named("c")
	checkPrint(t, bin(bin(a, "+", b), "*", c), "(a + b) * c")
	checkPrint(t, bin(a, "-", bin(b, "-", c)), "a - (b - c)")
}

func TestPromise11_2TextsOfEachKind(t *testing.T) {
	a, b := named("a"), named("b")
	checkPrint(t, number(0), "0")
	checkPrint(t, number(7), "7")
	checkPrint(t, number(32767), "32767")
	checkPrint(t, named("lamp_2"), "lamp_2")
	checkPrint(t, neg(number(5)), "-5")
	checkPrint(t, neg(neg(number(5))), "--5")
	checkPrint(t, neg(neg(neg(number(32767)))), "---32767")
	checkPrint(t, bin(a, "-", neg(neg(b))), "a - --b")
	checkPrint(t, not(a), "not a")
	checkPrint(t, not(not(neg(a))), "not not -a")
	checkPrint(t, has(a, "lit"), "a has lit")
	checkPrint(t, prop(prop(a, "x"), "y"), "a.x.y")
	checkPrint(t, prop(number(5), "x"), "5.x")
	checkPrint(t, call("f"), "f()")
	checkPrint(t, call("f", a), "f(a)")
	checkPrint(t, call("f", number(1), call("g"), not(a)), "f(1, g(), not a)")
	checkPrint(t, call("f", a, a, a, a, a, a, a, b), "f(a, a, a, a, a, a, a, b)")
	checkPrint(t, random(bin(a, "or", b)), "random(a or b)")
	for i, word := range trees {
		checkPrint(t, treeOf(i+1, bin(a, "+", b)), word+"(a + b)")
	}
	for i, word := range selves {
		checkPrint(t, self(i+1), word)
		checkPrint(t, prop(self(i+1), "x"), word+".x")
	}
	for _, text := range operators {
		checkPrint(t, bin(a, text, b), "a "+text+" b")
	}
}

// TestPromise11_2TextsAndTitles checks the texts of what can be said, which Parse does not read.
func TestPromise11_2TextsAndTitles(t *testing.T) {
	for _, c := range []struct {
		e    api.Expr
		want string
	}{
		{api.Expr{Kind: 2}, `""`},
		{api.Expr{Kind: 2, Name: "a \"b\"\n\\"}, `"a \"b\"\n\\"`},
		{title(named("a")), "title(a)"},
		{title(bin(named("a"), "or", number(1))), "title(a or 1)"},
	} {
		if got := phrase.Print(c.e); got != c.want {
			t.Fatalf("Print(%+v) = %q, want %q", c.e, got, c.want)
		}
		checkFail(t, c.want, api.ErrToken, 1)
	}
}

func TestPromise11_2ParenthesesWhereTheyAreNeeded(t *testing.T) {
	a, b, c := named("a"), named("b"), named("c")
	checkPrint(t, bin(bin(a, "==", b), "==", c), "(a == b) == c")
	checkPrint(t, bin(a, "==", bin(b, "<", c)), "a == (b < c)")
	checkPrint(t, has(has(a, "lit"), "open"), "(a has lit) has open")
	checkPrint(t, bin(has(a, "lit"), "in", has(b, "lit")), "(a has lit) in (b has lit)")
	checkPrint(t, bin(bin(a, "or", b), "and", bin(a, "or", c)), "(a or b) and (a or c)")
	checkPrint(t, bin(bin(a, "and", b), "or", bin(a, "and", c)), "a and b or a and c")
	checkPrint(t, bin(a, "or", bin(b, "or", c)), "a or (b or c)")
	checkPrint(t, bin(bin(a, "or", b), "or", c), "a or b or c")
	checkPrint(t, bin(bin(a, "/", b), "%", bin(b, "*", c)), "a / b % (b * c)")
	checkPrint(t, not(bin(a, "and", b)), "not (a and b)")
	checkPrint(t, not(bin(a, "==", b)), "not a == b")
	checkPrint(t, bin(not(a), "==", b), "(not a) == b")
	checkPrint(t, bin(a, "and", not(b)), "a and not b")
	checkPrint(t, neg(bin(a, "*", b)), "-(a * b)")
	checkPrint(t, bin(neg(a), "*", neg(b)), "-a * -b")
	checkPrint(t, neg(not(a)), "-(not a)")
	checkPrint(t, prop(neg(a), "x"), "(-a).x")
	checkPrint(t, neg(prop(a, "x")), "-a.x")
	checkPrint(t, prop(bin(a, "+", b), "x"), "(a + b).x")
	checkPrint(t, prop(call("f", bin(a, "+", b)), "x"), "f(a + b).x")
	checkPrint(t, prop(has(a, "lit"), "x"), "(a has lit).x")
	checkPrint(t, call("f", bin(a, "or", b), bin(a, "==", b)), "f(a or b, a == b)")
}

// TestPromise11_2OperandsOfEveryLevel checks each kind with operands of each kind in each place.
func TestPromise11_2OperandsOfEveryLevel(t *testing.T) {
	list := samples()
	for _, x := range list {
		checkDefinedPrint(t, x)
		for _, e := range []api.Expr{neg(x), not(x), has(x, "lit"), prop(x, "size"), random(x), treeOf(1, x), treeOf(2, x), treeOf(3, x), call("f", x), call("f", x, x)} {
			checkDefinedPrint(t, e)
		}
		for _, y := range list {
			for _, text := range operators {
				checkDefinedPrint(t, bin(x, text, y))
			}
		}
	}
}

// grown is an expression of at most that depth.
func (d *dice) grown(depth int) api.Expr {
	if depth < 2 || d.below(8) == 0 {
		return []api.Expr{number(d.below(32768)), named("a"), named("x_" + strconv.Itoa(d.below(9))), self(1 + d.below(6)), call("f")}[d.below(5)]
	}
	below := func() api.Expr { return d.grown(depth - 1) }
	switch d.below(9) {
	case 0:
		return neg(below())
	case 1:
		return not(below())
	case 2:
		return has(below(), "lit")
	case 3:
		return prop(below(), "size")
	case 4:
		return treeOf(1+d.below(3), below())
	case 5:
		return random(below())
	case 6:
		args := make([]api.Expr, d.below(3))
		for i := range args {
			args[i] = below()
		}
		return call("g", args...)
	}
	return bin(below(), operators[d.below(14)], below())
}

// TestPromise11_2WhatIsPrintedIsParsed checks expressions of all depths.
func TestPromise11_2WhatIsPrintedIsParsed(t *testing.T) {
	d := &dice{2}
	depths := map[int]bool{}
	for i := range 3000 {
		e := d.grown(2 + i%9)
		checkDefinedPrint(t, e)
		depths[tree.Depth(e)] = true
	}
	if len(depths) < 8 {
		t.Fatalf("only %d depths are checked", len(depths))
	}
}

// TestPromise11_2DeepExpressions checks those with the greatest depth and one more.
func TestPromise11_2DeepExpressions(t *testing.T) {
	layers := []func(e api.Expr) api.Expr{
		neg, not, random,
		func(e api.Expr) api.Expr { return has(e, "lit") },
		func(e api.Expr) api.Expr { return prop(e, "x") },
		func(e api.Expr) api.Expr { return treeOf(2, e) },
		func(e api.Expr) api.Expr { return call("f", number(1), e) },
	}
	for _, text := range operators {
		layers = append(layers,
			func(e api.Expr) api.Expr { return bin(e, text, named("b")) },
			func(e api.Expr) api.Expr { return bin(named("b"), text, e) })
	}
	for i, layer := range layers {
		e := named("a")
		for range mostDepth - 1 {
			e = layer(e)
		}
		checkDefinedPrint(t, e)
		e = layer(e)
		if got, want := phrase.Print(e), definedText(e); got != want {
			t.Fatalf("Print of layer %d = %q, want %q", i, got, want)
		}
		if got := parse(tokens(phrase.Print(e))); got.fail.Err != api.ErrDepth || got.used != 0 || !tree.Same(got.e, api.Expr{}) {
			t.Fatalf("Parse of layer %d too many = %+v", i, got)
		}
	}
}

// TestPromise11_1ParenthesesMakeNoDifference checks that parentheses that are not needed are parsed and leave no trace.
func TestPromise11_1ParenthesesMakeNoDifference(t *testing.T) {
	d := &dice{3}
	for i := range 500 {
		e := d.grown(2 + i%4)
		checkWhole(t, "(("+definedText(e)+"))", e)
		if e.Kind == 6 {
			checkWhole(t, "("+definedText(e.Args[0])+")"+" "+operators[e.Op-1]+" "+"(("+definedText(e.Args[1])+"))", e)
		}
	}
}

// TestPromise11_1LongLists checks an expression with as many tokens as a source can have, and one at the beginning of a long list.
func TestPromise11_1LongLists(t *testing.T) {
	e := number(1)
	for tree.Size(e) < 4000 {
		e = call("f", e, e, e, e, e, e, e, e)
	}
	checkDefinedPrint(t, e)
	long := slices.Repeat(tokens("; a + b )"), 100000)
	checkOutcome(t, append(tokens("a + b"), long...), outcome{e: bin(named("a"), "+", named("b")), used: 3})
}

// TestP1AnyExpression checks that Tight and Print end for expressions that are not valid.
func TestP1AnyExpression(t *testing.T) {
	operands := []api.Expr{named("a"), {Kind: 2, Name: "b"}, title(number(1)), {Kind: 99}, {Kind: 14, Num: 3}}
	for kind := -2; kind <= 25; kind++ {
		for _, op := range []int{-1 << 62, -1, 0, 1, 3, 4, 6, 7, 14, 15, 16, 1 << 62} {
			for n := range len(operands) + 1 {
				e := api.Expr{Kind: kind, Op: op, Num: -32768, Name: "n", Args: operands[:n]}
				phrase.Tight(e)
				phrase.Print(e)
				phrase.Print(neg(e))
				phrase.Print(bin(e, "==", e))
			}
		}
	}
	deep := named("a")
	for range 1 << 16 {
		deep = not(deep)
	}
	if got := phrase.Print(deep); got != strings.Repeat("not ", 1<<16)+"a" {
		t.Fatalf("Print of a deep expression has %d bytes", len(got))
	}
}

// TestCallsChangeAndRememberNothing checks R3 and R4.
func TestCallsChangeAndRememberNothing(t *testing.T) {
	l := tokens("f(a + b, not c.x, parent(here) has lit) - -5 ; d")
	kept := slices.Clone(l)
	first := parse(l)
	text := phrase.Print(first.e)
	first.e.Args[0].Args[0].Args[0].Name = "changed"
	first.e.Args[0].Args = first.e.Args[0].Args[:1]
	parse(tokens("((("))
	second := parse(l)
	if !slices.Equal(l, kept) || phrase.Print(second.e) != text || second.used != len(l)-2 {
		t.Fatalf("Parse(%s) = %+v the second time", shown(l), second)
	}
	spare := append(make([]api.Tok, 0, 100), l[:3]...)
	checkOutcome(t, spare, outcome{fail: api.Fail{Err: api.ErrShort}})
	copied := parse(l)
	phrase.Print(copied.e)
	phrase.Tight(copied.e)
	if !tree.Same(copied.e, second.e) {
		t.Fatalf("Print or Tight changed %+v", copied.e)
	}
}
