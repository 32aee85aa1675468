package tree_test

import (
	"fmt"
	"math"
	"regexp"
	"slices"
	"strings"
	"testing"

	"clew/api"
	"clew/tree"
)

// The limits that the chapter names.
const (
	mostDepth = 32
	mostBlock = 256
	mostText  = 1024
	tooDeep   = 65
)

// keywordList is the keywords and the directions of chapter 9.
const keywordList = "story by release max start flag prop global room thing in verb meta on before after if func daemon text words adjs is exit to else say let set unset move remove while each return stop win lose award halt travel look list or and not has parent child next random title here player noun second number score any many dir north south east west northeast northwest southeast southwest up down out"

var (
	nameForm = regexp.MustCompile(`\A[a-z][a-z0-9_]{0,23}\z`)
	textForm = regexp.MustCompile(`\A[ -~\n]*\z`)
)

func keywords() []string       { return strings.Fields(keywordList) }
func isName(s string) bool     { return nameForm.MatchString(s) && !slices.Contains(keywords(), s) }
func isText(s string) bool     { return len(s) <= mostText && textForm.MatchString(s) }
func between(n, a, b int) bool { return a <= n && n <= b }

// form is a kind of expression or statement, as the chapter describes it.
type form struct {
	title        string
	kind         int
	uses         string // the fields that are neither Op nor Args; "name": Name in sources, Num in books
	ops          int    // Op is from 1 to ops
	least, most  int    // Args
	source, book bool
}

// has reports whether f uses a field in books or in sources.
func (f form) has(field string, book bool) bool {
	named := strings.Contains(f.uses, "name")
	return strings.Contains(f.uses, field) || named && (book && field == "Num" || !book && field == "Name")
}

// in reports whether f occurs in books or in sources.
func (f form) in(book bool) bool { return book && f.book || !book && f.source }

// exprForms are the kinds of expressions.
var exprForms = []form{
	{"ExNum", 1, "Num", 0, 0, 0, true, true},
	{"ExText", 2, "Name", 0, 0, 0, true, false},
	{"ExName", 3, "Name", 0, 0, 0, true, false},
	{"ExNeg", 4, "", 0, 1, 1, true, true},
	{"ExNot", 5, "", 0, 1, 1, true, true},
	{"ExBin", 6, "", 14, 2, 2, true, true},
	{"ExHas", 7, "Name", 0, 1, 1, true, false},
	{"ExProp", 8, "Name", 0, 1, 1, true, false},
	{"ExCall", 9, "Name", 0, 0, 8, true, false},
	{"ExTree", 10, "", 3, 1, 1, true, true},
	{"ExRandom", 11, "", 0, 1, 1, true, true},
	{"ExSelf", 12, "", 6, 0, 0, true, true},
	{"ExTitle", 13, "", 0, 1, 1, true, true},
	{"ExGlobal", 14, "Num", 0, 0, 0, false, true},
	{"ExLocal", 15, "Num", 0, 0, 0, false, true},
	{"ExHasN", 16, "Num", 0, 1, 1, false, true},
	{"ExPropN", 17, "Num", 0, 1, 1, false, true},
	{"ExCallN", 18, "Num", 0, 0, 1 << 30, false, true},
	{"ExTextN", 19, "Num", 0, 0, 0, false, true},
}

// stmtForms are the kinds of statements.
var stmtForms = []form{
	{"StSay", 1, "", 0, 1, 8, true, true},
	{"StLet", 2, "name", 0, 1, 1, true, true},
	{"StAssign", 3, "name", 0, 1, 1, true, true},
	{"StPut", 4, "name", 0, 2, 2, true, true},
	{"StSet", 5, "name", 0, 1, 1, true, true},
	{"StUnset", 6, "name", 0, 1, 1, true, true},
	{"StMove", 7, "", 0, 2, 2, true, true},
	{"StRemove", 8, "", 0, 1, 1, true, true},
	{"StIf", 9, "Body Else", 0, 1, 1, true, true},
	{"StWhile", 10, "Body", 0, 1, 1, true, true},
	{"StEach", 11, "name Body", 0, 1, 1, true, true},
	{"StReturn", 12, "", 0, 1, 1, true, true},
	{"StStop", 13, "", 0, 0, 0, true, true},
	{"StWin", 14, "", 0, 0, 0, true, true},
	{"StLose", 15, "", 0, 0, 0, true, true},
	{"StAward", 16, "", 0, 1, 1, true, true},
	{"StStart", 17, "name", 0, 1, 1, true, true},
	{"StHalt", 18, "name", 0, 0, 0, true, true},
	{"StCall", 19, "", 0, 1, 1, true, true},
	{"StTravel", 20, "", 0, 1, 1, true, true},
	{"StLook", 21, "", 0, 0, 0, true, true},
	{"StList", 22, "", 0, 1, 1, true, true},
	{"StGlobal", 23, "name", 0, 1, 1, false, true},
}

// lang is sources, or books with tables and a number of locals.
type lang struct {
	book   bool
	t      api.Tables
	locals int
}

// The sizes of the tables of inBook, each of them another one.
const (
	daemonCount = 1
	propCount   = 2
	globalCount = 3
	localCount  = 4
	flagCount   = 5
	textCount   = 6
	funcCount   = 8
)

var inSource = lang{}

// inBook is books with tables in which function i takes paramsOf(i) arguments.
func inBook() lang {
	return lang{book: true, locals: localCount, t: api.Tables{
		Daemons: make([]int, daemonCount),
		Props:   make([]int, propCount),
		Globals: make([]int, globalCount),
		Flags:   flagCount,
		Texts:   make([]string, textCount),
		Funcs:   []int{1, 0, 3, 4, -1, 7, 2, 6},
		Params:  []int{0, 1, 2, 8, 9, 0, 3},
	}}
}

func languages() []lang { return []lang{inSource, inBook()} }

// paramsOf is how many arguments function i of inBook takes, or -1.
func paramsOf(i int) int { return []int{1, 0, 8, 9, -1, -1, 2, 3}[i] }

func (w lang) String() string {
	if w.book {
		return "book"
	}
	return "source"
}

// expr and block are the functions of the package for the language.
func (w lang) expr(e api.Expr) bool {
	if w.book {
		return tree.Bound(w.t, e, w.locals)
	}
	return tree.Right(e)
}

func (w lang) block(l []api.Stmt) bool {
	if w.book {
		return tree.BoundBlock(w.t, l, w.locals)
	}
	return tree.RightBlock(l)
}

// textKind and callKind are the kinds of texts and calls.
func (w lang) textKind() int {
	if w.book {
		return 19
	}
	return 2
}

func (w lang) callKind() int {
	if w.book {
		return 18
	}
	return 9
}

func one() api.Expr                  { return api.Expr{Kind: 1, Num: 1} }
func not(e api.Expr) api.Expr        { return api.Expr{Kind: 5, Args: []api.Expr{e}} }
func title(e api.Expr) api.Expr      { return api.Expr{Kind: 13, Args: []api.Expr{e}} }
func add(a, b api.Expr) api.Expr     { return api.Expr{Kind: 6, Op: 10, Args: []api.Expr{a, b}} }
func named(s string) api.Expr        { return api.Expr{Kind: 3, Name: s} }
func text(s string) api.Expr         { return api.Expr{Kind: 2, Name: s} }
func stop() api.Stmt                 { return api.Stmt{Kind: 13} }
func giving(e api.Expr) api.Stmt     { return api.Stmt{Kind: 16, Args: []api.Expr{e}} }
func say(l ...api.Expr) api.Stmt     { return api.Stmt{Kind: 1, Args: l} }
func block(l ...api.Stmt) []api.Stmt { return l }
func ifThen(body, other []api.Stmt) api.Stmt {
	return api.Stmt{Kind: 9, Args: []api.Expr{one()}, Body: body, Else: other}
}

// ones is n arguments.
func ones(n int) []api.Expr { return slices.Repeat([]api.Expr{one()}, n) }

// exprCount and stmtCount are how many there are of what a kind of expression or statement of a book refers to.
func (w lang) exprCount(kind int) int {
	return map[int]int{14: len(w.t.Globals), 15: w.locals, 16: w.t.Flags, 17: len(w.t.Props), 18: len(w.t.Funcs), 19: len(w.t.Texts)}[kind]
}

func (w lang) stmtCount(kind int) int {
	return map[int]int{2: w.locals, 3: w.locals, 4: len(w.t.Props), 5: w.t.Flags, 6: w.t.Flags, 11: w.locals, 17: len(w.t.Daemons), 18: len(w.t.Daemons), 23: len(w.t.Globals)}[kind]
}

// plainExpr is an expression of a kind with its fields and as few Args as it can have.
func (w lang) plainExpr(f form) api.Expr {
	e := api.Expr{Kind: f.kind, Op: min(f.ops, 1), Args: ones(f.least)}
	if f.has("Name", w.book) {
		e.Name = "a"
	}
	if f.kind == 18 {
		e.Num = 1
	}
	return e
}

// plainStmt is a statement of a kind with its fields, with as few Args as it can have and without Body and Else.
func (w lang) plainStmt(f form) api.Stmt {
	s := api.Stmt{Kind: f.kind, Args: ones(f.least)}
	if f.has("Name", w.book) {
		s.Name = "a"
	}
	if f.kind == 19 {
		s.Args = []api.Expr{w.call(0)}
	}
	return s
}

// call is a call with that many arguments, of which there can be 0, 1, 2, 3 or 8.
func (w lang) call(args int) api.Expr {
	if !w.book {
		return api.Expr{Kind: 9, Name: "f", Args: ones(args)}
	}
	return api.Expr{Kind: 18, Num: map[int]int{1: 0, 0: 1, 8: 2, 2: 6, 3: 7}[args], Args: ones(args)}
}

// validNode reports whether e is valid apart from its place and what lies below it.
func (w lang) validNode(e api.Expr) bool {
	i := slices.IndexFunc(exprForms, func(f form) bool { return f.kind == e.Kind })
	if i < 0 {
		return false
	}
	f := exprForms[i]
	switch {
	case !f.in(w.book), !between(len(e.Args), f.least, f.most):
		return false
	case f.ops == 0 && e.Op != 0, f.ops > 0 && !between(e.Op, 1, f.ops):
		return false
	case !f.has("Num", w.book) && e.Num != 0, !f.has("Name", w.book) && e.Name != "":
		return false
	}
	switch f.title {
	case "ExNum":
		return !w.book && between(e.Num, 0, 32767) || w.book && between(e.Num, -32768, 32767)
	case "ExText":
		return isText(e.Name)
	case "ExCallN":
		return between(e.Num, 0, len(w.t.Funcs)-1) && between(w.t.Funcs[e.Num], 0, len(w.t.Params)-1) && w.t.Params[w.t.Funcs[e.Num]] == len(e.Args)
	}
	return f.uses == "" || f.has("Name", w.book) && isName(e.Name) || f.has("Num", w.book) && e.Num >= 0 && e.Num < w.exprCount(f.kind)
}

// validExpr is Right and Bound by their definition.
func (w lang) validExpr(e api.Expr) bool {
	for i, below := range exprs(e) {
		if !w.validNode(below) || i > 0 && (below.Kind == w.textKind() || below.Kind == 13) {
			return false
		}
	}
	return levels(e) <= mostDepth
}

// validStmt reports whether s is valid apart from its depth.
func (w lang) validStmt(s api.Stmt) bool {
	i := slices.IndexFunc(stmtForms, func(f form) bool { return f.kind == s.Kind })
	if i < 0 {
		return false
	}
	f := stmtForms[i]
	switch {
	case !f.in(w.book), !between(len(s.Args), f.least, f.most):
		return false
	case !f.has("Num", w.book) && s.Num != 0, !f.has("Name", w.book) && s.Name != "":
		return false
	case !f.has("Body", w.book) && len(s.Body) > 0, !f.has("Else", w.book) && len(s.Else) > 0:
		return false
	case f.has("Name", w.book) && !isName(s.Name), f.kind == 19 && s.Args[0].Kind != w.callKind():
		return false
	case f.has("Num", w.book) && (s.Num < 0 || s.Num >= w.stmtCount(f.kind) || f.kind == 11 && s.Num+1 >= w.locals):
		return false
	}
	for _, e := range s.Args {
		if !w.validExpr(e) || f.kind != 1 && (e.Kind == w.textKind() || e.Kind == 13) {
			return false
		}
	}
	return w.validStmts(s.Body) && w.validStmts(s.Else)
}

func (w lang) validStmts(l []api.Stmt) bool {
	return len(l) <= mostBlock && !slices.ContainsFunc(l, func(s api.Stmt) bool { return !w.validStmt(s) })
}

// validBlock is RightBlock and BoundBlock by their definition.
func (w lang) validBlock(l []api.Stmt) bool {
	return w.validStmts(l) && levelsBlock(l) <= mostDepth
}

// exprs is e and all expressions below it.
func exprs(e api.Expr) []api.Expr {
	var list []api.Expr
	var visit func(e api.Expr)
	visit = func(e api.Expr) {
		list = append(list, e)
		for _, arg := range e.Args {
			visit(arg)
		}
	}
	visit(e)
	return list
}

// stmts is all statements of l, those within others too.
func stmts(l []api.Stmt) []api.Stmt {
	var list []api.Stmt
	var visit func(l []api.Stmt)
	visit = func(l []api.Stmt) {
		for _, s := range l {
			list = append(list, s)
			visit(s.Body)
			visit(s.Else)
		}
	}
	visit(l)
	return list
}

// levels is Depth by its definition, without its limit.
func levels(e api.Expr) int {
	most := 0
	for _, arg := range e.Args {
		most = max(most, levels(arg))
	}
	return 1 + most
}

// levelsBlock is DepthBlock by its definition, without its limit.
func levelsBlock(l []api.Stmt) int {
	if len(l) == 0 {
		return 0
	}
	most := 0
	for _, s := range l {
		for _, arg := range s.Args {
			most = max(most, levels(arg))
		}
		most = max(most, levelsBlock(s.Body), levelsBlock(s.Else))
	}
	return 1 + most
}

// written is all fields of an expression.
func written(e api.Expr) string {
	var b strings.Builder
	write(&b, []api.Expr{e})
	return b.String()
}

// writtenBlock is all fields of statements.
func writtenBlock(l []api.Stmt) string {
	var b strings.Builder
	writeBlock(&b, l)
	return b.String()
}

func write(b *strings.Builder, l []api.Expr) {
	b.WriteString("(")
	for _, e := range l {
		fmt.Fprintf(b, "%d/%d/%d/%q", e.Kind, e.Op, e.Num, e.Name)
		write(b, e.Args)
	}
	b.WriteString(")")
}

func writeBlock(b *strings.Builder, l []api.Stmt) {
	b.WriteString("{")
	for _, s := range l {
		fmt.Fprintf(b, "%d/%d/%q", s.Kind, s.Num, s.Name)
		write(b, s.Args)
		writeBlock(b, s.Body)
		writeBlock(b, s.Else)
	}
	b.WriteString("}")
}

// short is the beginning of s, for a message.
func short(s string) string { return fmt.Sprintf("%.300s", s) }

// copied and copiedBlock are equal trees in other memory.
func copied(e api.Expr) api.Expr {
	e.Args = copiedArgs(e.Args)
	return e
}

func copiedArgs(l []api.Expr) []api.Expr {
	var list []api.Expr
	for _, e := range l {
		list = append(list, copied(e))
	}
	return list
}

func copiedBlock(l []api.Stmt) []api.Stmt {
	var list []api.Stmt
	for _, s := range l {
		s.Args, s.Body, s.Else = copiedArgs(s.Args), copiedBlock(s.Body), copiedBlock(s.Else)
		list = append(list, s)
	}
	return list
}

// exprPlaces is where e and all expressions below it are.
func exprPlaces(e *api.Expr) []*api.Expr {
	list := []*api.Expr{e}
	for i := range e.Args {
		list = append(list, exprPlaces(&e.Args[i])...)
	}
	return list
}

// stmtPlaces is where the statements of l are, and argPlaces where all their expressions are.
func stmtPlaces(l []api.Stmt) []*api.Stmt {
	var list []*api.Stmt
	for i := range l {
		list = append(append(append(list, &l[i]), stmtPlaces(l[i].Body)...), stmtPlaces(l[i].Else)...)
	}
	return list
}

func argPlaces(l []api.Stmt) []*api.Expr {
	var list []*api.Expr
	for _, s := range stmtPlaces(l) {
		for i := range s.Args {
			list = append(list, exprPlaces(&s.Args[i])...)
		}
	}
	return list
}

// checkExpr checks whether e is valid, which has to agree with the definition.
func checkExpr(t *testing.T, w lang, e api.Expr, want bool) {
	t.Helper()
	if defined := w.validExpr(e); defined != want {
		t.Errorf("the test wants %v for %s in a %s, by the definition it is %v", want, short(written(e)), w, defined)
	}
	if got := w.expr(e); got != want {
		t.Errorf("%s in a %s: valid = %v, want %v", short(written(e)), w, got, want)
	}
}

// checkBlock is checkExpr for statements.
func checkBlock(t *testing.T, w lang, l []api.Stmt, want bool) {
	t.Helper()
	if defined := w.validBlock(l); defined != want {
		t.Errorf("the test wants %v for %s in a %s, by the definition it is %v", want, short(writtenBlock(l)), w, defined)
	}
	if got := w.block(l); got != want {
		t.Errorf("%s in a %s: valid = %v, want %v", short(writtenBlock(l)), w, got, want)
	}
}

// checkArg checks whether e is valid as a whole expression, below another one, and as an argument of a statement.
func checkArg(t *testing.T, w lang, e api.Expr, want bool) {
	t.Helper()
	checkExpr(t, w, e, want)
	checkExpr(t, w, not(e), want)
	checkExpr(t, w, add(one(), e), want)
	checkExpr(t, w, title(e), want)
	checkBlock(t, w, block(giving(e)), want)
	checkBlock(t, w, block(say(one(), e)), want)
	checkBlock(t, w, block(stop(), ifThen(nil, block(giving(not(e))))), want)
}

// checkStmt checks whether s is valid in a list, and in the Body and the Else of other statements.
func checkStmt(t *testing.T, w lang, s api.Stmt, want bool) {
	t.Helper()
	checkBlock(t, w, block(s), want)
	checkBlock(t, w, block(stop(), s, stop()), want)
	checkBlock(t, w, block(ifThen(block(s), nil)), want)
	checkBlock(t, w, block(ifThen(nil, block(stop(), s))), want)
	checkBlock(t, w, block(api.Stmt{Kind: 10, Args: ones(1), Body: block(s)}), want)
}

// checkMeasures checks Size and Depth of an expression against their definitions.
func checkMeasures(t *testing.T, e api.Expr) {
	t.Helper()
	if got, want := tree.Size(e), len(exprs(e)); got != want {
		t.Errorf("Size of %s is %d, want %d", short(written(e)), got, want)
	}
	if got, want := tree.Depth(e), min(levels(e), tooDeep); got != want {
		t.Errorf("Depth of %s is %d, want %d", short(written(e)), got, want)
	}
}

// checkMeasuresBlock checks SizeBlock and DepthBlock against their definitions.
func checkMeasuresBlock(t *testing.T, l []api.Stmt) {
	t.Helper()
	if got, want := tree.SizeBlock(l), len(stmts(l)); got != want {
		t.Errorf("SizeBlock of %s is %d, want %d", short(writtenBlock(l)), got, want)
	}
	if got, want := tree.DepthBlock(l), min(levelsBlock(l), tooDeep); got != want {
		t.Errorf("DepthBlock of %s is %d, want %d", short(writtenBlock(l)), got, want)
	}
}

// checkSame checks Same of a and b in both orders.
func checkSame(t *testing.T, a, b api.Expr, want bool) {
	t.Helper()
	if tree.Same(a, b) != want || tree.Same(b, a) != want {
		t.Errorf("Same of %s and %s is not %v", short(written(a)), short(written(b)), want)
	}
}

// checkSameBlock checks SameBlock of a and b in both orders.
func checkSameBlock(t *testing.T, a, b []api.Stmt, want bool) {
	t.Helper()
	if tree.SameBlock(a, b) != want || tree.SameBlock(b, a) != want {
		t.Errorf("SameBlock of %s and %s is not %v", short(writtenBlock(a)), short(writtenBlock(b)), want)
	}
}

// numbers are numbers at and beyond the bounds of all that is numbered.
func numbers() []int {
	return []int{math.MinInt, -1 << 32, -65536, -32769, -32768, -32767, -2, -1, 0, 1, 2, 3, 4, 5, 6, 7, 8, 9, 13, 14, 15, 20, 100, 32766, 32767, 32768, 65536, 1 << 32, math.MaxInt - 1, math.MaxInt}
}

// goodNames and badNames are names of sources, and what is none.
func goodNames() []string {
	return []string{"a", "z", "a1", "a_", "box_2", "inn", "i", "rooms", "say1", "in_", strings.Repeat("a", 24), "z" + strings.Repeat("9", 23), "z" + strings.Repeat("_", 23)}
}

func badNames() []string {
	return append(keywords(), "", "A", "aB", "1", "1a", "_", "_a", "a b", " a", "a ", "a-b", "a.b", "a'", "a\n", "a\x00", "\xe4", "a\u00e4", "`a", "{a", strings.Repeat("a", 25), strings.Repeat("a", 1000))
}

func goodTexts() []string {
	return []string{"", " ", "a", "room", "A tin box.", "\n", "\"\\", "a\n\nb", "~", strings.Repeat("a", mostText), strings.Repeat("\n", mostText)}
}

func badTexts() []string {
	return []string{"\t", "a\tb", "\r", "\x00", "\x1f", "\x7f", "\x80", "\xff", "a\u00e4", strings.Repeat("a", mostText+1), strings.Repeat("\n", mostText+1), strings.Repeat("a", mostText) + "\t"}
}

func TestPromise10_1Examples(t *testing.T) {
	sum := add(one(), named("a"))
	checkExpr(t, inSource, sum, true)
	if tree.Size(sum) != 3 || tree.Depth(sum) != 2 {
		t.Errorf("1 + a has size %d and depth %d", tree.Size(sum), tree.Depth(sum))
	}
	checkExpr(t, inSource, add(named("a"), text("b")), false)
	checkBlock(t, inSource, block(say(text("b"), title(named("a")))), true)
	both := block(ifThen(block(stop()), nil))
	if tree.SizeBlock(both) != 2 || tree.DepthBlock(both) != 2 {
		t.Errorf("if 1 { stop; } has size %d and depth %d", tree.SizeBlock(both), tree.DepthBlock(both))
	}
	two := api.Tables{Globals: []int{7, 8}}
	if !tree.Bound(two, api.Expr{Kind: 14, Num: 1}, 0) || tree.Bound(two, api.Expr{Kind: 14, Num: 2}, 0) {
		t.Error("ExGlobal with two globals")
	}
}

func TestPromise10_1And10_2EmptyLists(t *testing.T) {
	for _, w := range languages() {
		checkBlock(t, w, nil, true)
		checkBlock(t, w, []api.Stmt{}, true)
		checkBlock(t, w, block(ifThen(nil, nil), ifThen([]api.Stmt{}, []api.Stmt{})), true)
		checkBlock(t, w, block(api.Stmt{Kind: 13, Args: []api.Expr{}, Body: []api.Stmt{}, Else: []api.Stmt{}}), true)
		checkExpr(t, w, api.Expr{Kind: 1, Args: []api.Expr{}}, true)
		checkExpr(t, w, api.Expr{}, false)
		checkBlock(t, w, block(api.Stmt{}), false)
	}
}

func TestPromise10_1And10_2EachKindOfExpressionHasItsFields(t *testing.T) {
	for _, w := range languages() {
		for _, f := range exprForms {
			e := w.plainExpr(f)
			checkExpr(t, w, e, f.in(w.book))
			for _, change := range []func(e *api.Expr){
				func(e *api.Expr) { e.Op = 1 },
				func(e *api.Expr) { e.Op = -1 },
				func(e *api.Expr) { e.Num = 1 },
				func(e *api.Expr) { e.Num = -1 },
				func(e *api.Expr) { e.Name = "b" },
				func(e *api.Expr) { e.Name = "\x00" },
				func(e *api.Expr) { e.Args = append(slices.Clone(e.Args), one()) },
			} {
				changed := e
				change(&changed)
				checkExpr(t, w, changed, w.validExpr(changed))
				if !f.in(w.book) && w.expr(changed) {
					t.Errorf("%s is valid in a %s: %s", f.title, w, written(changed))
				}
			}
			checkUnusedOfExpr(t, w, f, e)
		}
	}
}

// checkUnusedOfExpr checks that no field but those of f can be other than zero.
func checkUnusedOfExpr(t *testing.T, w lang, f form, e api.Expr) {
	t.Helper()
	for _, n := range []int{1, -1, 2, 14, math.MaxInt, math.MinInt} {
		if changed := e; f.ops == 0 {
			changed.Op = n
			checkExpr(t, w, changed, false)
		}
		if changed := e; !f.has("Num", w.book) {
			changed.Num = n
			checkExpr(t, w, changed, false)
		}
	}
	for _, s := range []string{"a", "room", " ", "\x00"} {
		if changed := e; !f.has("Name", w.book) {
			changed.Name = s
			checkExpr(t, w, changed, false)
		}
	}
}

func TestPromise10_1And10_2NumberOfArgsOfExpressions(t *testing.T) {
	for _, w := range languages() {
		for _, f := range exprForms {
			for n := range 12 {
				e := w.plainExpr(f)
				e.Args = ones(n)
				want := f.in(w.book) && between(n, f.least, f.most)
				if f.kind == 18 {
					want = want && n == paramsOf(1)
				}
				checkExpr(t, w, e, want)
			}
		}
		checkArg(t, w, w.call(8), true)
	}
	nine := api.Expr{Kind: 9, Name: "f", Args: ones(9)}
	checkArg(t, inSource, nine, false)
	checkBlock(t, inSource, block(api.Stmt{Kind: 19, Args: []api.Expr{nine}}), false)
}

func TestPromise10_1And10_2KindsOfExpressions(t *testing.T) {
	for _, w := range languages() {
		for _, kind := range []int{math.MinInt, -19, -1, 0, 20, 21, 256 + 1, 1<<32 + 1, math.MaxInt} {
			for n := range 4 {
				checkArg(t, w, api.Expr{Kind: kind, Args: ones(n)}, false)
				checkArg(t, w, api.Expr{Kind: kind, Op: 1, Args: ones(n)}, false)
				checkArg(t, w, api.Expr{Kind: kind, Num: 1, Args: ones(n)}, false)
				checkArg(t, w, api.Expr{Kind: kind, Name: "a", Args: ones(n)}, false)
			}
		}
		for _, f := range exprForms {
			if f.kind != 13 && f.kind != w.textKind() {
				checkArg(t, w, w.plainExpr(f), f.in(w.book))
			}
		}
	}
}

func TestPromise10_1And10_2Operators(t *testing.T) {
	for _, w := range languages() {
		for _, f := range exprForms {
			if f.ops == 0 {
				continue
			}
			for _, op := range append(numbers(), f.ops-1, f.ops, f.ops+1) {
				checkArg(t, w, api.Expr{Kind: f.kind, Op: op, Args: ones(f.least)}, between(op, 1, f.ops))
			}
			for op := 1; op <= f.ops; op++ {
				checkArg(t, w, api.Expr{Kind: f.kind, Op: op, Args: ones(f.least)}, true)
			}
		}
	}
}

func TestPromise10_1Numbers(t *testing.T) {
	for _, n := range numbers() {
		checkArg(t, inSource, api.Expr{Kind: 1, Num: n}, between(n, 0, 32767))
	}
	for n, want := range map[int]bool{-1: false, 0: true, 32767: true, 32768: false} {
		checkArg(t, inSource, api.Expr{Kind: 1, Num: n}, want)
	}
}

func TestPromise10_2Numbers(t *testing.T) {
	for _, n := range numbers() {
		checkArg(t, inBook(), api.Expr{Kind: 1, Num: n}, between(n, -32768, 32767))
	}
	for n, want := range map[int]bool{-32769: false, -32768: true, 32767: true, 32768: false} {
		checkArg(t, inBook(), api.Expr{Kind: 1, Num: n}, want)
	}
}

func TestPromise10_1NamesOfExpressions(t *testing.T) {
	for _, f := range exprForms {
		if !f.in(false) || !f.has("Name", false) || f.kind == 2 {
			continue
		}
		for _, s := range goodNames() {
			checkArg(t, inSource, api.Expr{Kind: f.kind, Name: s, Args: ones(f.least)}, true)
		}
		for _, s := range badNames() {
			checkArg(t, inSource, api.Expr{Kind: f.kind, Name: s, Args: ones(f.least)}, false)
		}
	}
}

func TestPromise10_1NamesOfStatements(t *testing.T) {
	for _, f := range stmtForms {
		if !f.in(false) || !f.has("Name", false) {
			continue
		}
		for _, s := range goodNames() {
			checkStmt(t, inSource, api.Stmt{Kind: f.kind, Name: s, Args: ones(f.least)}, true)
		}
		for _, s := range badNames() {
			checkStmt(t, inSource, api.Stmt{Kind: f.kind, Name: s, Args: ones(f.least)}, false)
		}
	}
}

func TestPromise10_1Texts(t *testing.T) {
	for _, s := range goodTexts() {
		checkExpr(t, inSource, text(s), true)
		checkStmt(t, inSource, say(text(s)), true)
	}
	for _, s := range badTexts() {
		checkExpr(t, inSource, text(s), false)
		checkStmt(t, inSource, say(text(s)), false)
		checkStmt(t, inSource, say(one(), text("a"), text(s), one()), false)
	}
}

// sayables are a text and a title.
func (w lang) sayables() []api.Expr {
	if w.book {
		return []api.Expr{{Kind: 19, Num: 1}, title(one())}
	}
	return []api.Expr{text("b"), title(named("a"))}
}

func TestPromise10_1And10_2TextsAndTitlesInExpressions(t *testing.T) {
	for _, w := range languages() {
		for _, said := range w.sayables() {
			checkExpr(t, w, said, true)
			checkExpr(t, w, not(said), false)
			checkExpr(t, w, not(not(said)), false)
			checkExpr(t, w, title(said), false)
			checkExpr(t, w, title(not(said)), false)
			for _, f := range exprForms {
				for i := range f.least {
					e := w.plainExpr(f)
					e.Args[i] = said
					checkExpr(t, w, e, false)
					checkStmt(t, w, say(e), false)
				}
			}
			for _, n := range []int{1, 2, 3, 8} {
				for i := range n {
					e := w.call(n)
					checkExpr(t, w, e, true)
					e.Args[i] = said
					checkExpr(t, w, e, false)
					checkStmt(t, w, api.Stmt{Kind: 19, Args: []api.Expr{e}}, false)
				}
			}
		}
	}
}

func TestPromise10_1And10_2TextsAndTitlesInStatements(t *testing.T) {
	for _, w := range languages() {
		for _, said := range w.sayables() {
			for n := 1; n <= 8; n++ {
				for i := range n {
					s := say(ones(n)...)
					s.Args[i] = said
					checkStmt(t, w, s, true)
				}
				checkStmt(t, w, say(slices.Repeat([]api.Expr{said}, n)...), true)
			}
			for _, f := range stmtForms {
				for i := range f.least {
					s := w.plainStmt(f)
					s.Args[i] = said
					checkStmt(t, w, s, f.kind == 1)
				}
			}
		}
	}
}

func TestPromise10_1And10_2EachKindOfStatementHasItsFields(t *testing.T) {
	for _, w := range languages() {
		for _, f := range stmtForms {
			s := w.plainStmt(f)
			checkStmt(t, w, s, f.in(w.book))
			whole := s
			if f.has("Body", w.book) {
				whole.Body = block(stop(), giving(one()))
			}
			if f.has("Else", w.book) {
				whole.Else = block(stop())
			}
			checkStmt(t, w, whole, f.in(w.book))
			checkUnusedOfStmt(t, w, f, s)
			checkUnusedOfStmt(t, w, f, whole)
		}
	}
}

// checkUnusedOfStmt checks that no field but those of f can be other than zero.
func checkUnusedOfStmt(t *testing.T, w lang, f form, s api.Stmt) {
	t.Helper()
	for _, n := range []int{1, -1, 2, math.MaxInt, math.MinInt} {
		if changed := s; !f.has("Num", w.book) {
			changed.Num = n
			checkStmt(t, w, changed, false)
		}
	}
	for _, name := range []string{"a", "room", " ", "\x00"} {
		if changed := s; !f.has("Name", w.book) {
			changed.Name = name
			checkStmt(t, w, changed, false)
		}
	}
	changed := s
	changed.Body = block(stop())
	checkStmt(t, w, changed, f.in(w.book) && f.has("Body", w.book))
	changed = s
	changed.Else = block(stop())
	checkStmt(t, w, changed, f.in(w.book) && f.has("Else", w.book))
}

func TestPromise10_1And10_2NumberOfArgsOfStatements(t *testing.T) {
	for _, w := range languages() {
		for _, f := range stmtForms {
			for n := range 12 {
				s := w.plainStmt(f)
				s.Args = ones(n)
				if f.kind == 19 && n > 0 {
					s.Args[0] = w.call(0)
				}
				checkStmt(t, w, s, f.in(w.book) && between(n, f.least, f.most))
			}
		}
		checkStmt(t, w, say(), false)
		checkStmt(t, w, say(ones(8)...), true)
		checkStmt(t, w, say(ones(9)...), false)
	}
}

func TestPromise10_1And10_2KindsOfStatements(t *testing.T) {
	for _, w := range languages() {
		for _, kind := range []int{math.MinInt, -23, -1, 0, 24, 25, 256 + 13, 1<<32 + 13, math.MaxInt} {
			for n := range 3 {
				checkStmt(t, w, api.Stmt{Kind: kind, Args: ones(n)}, false)
				checkStmt(t, w, api.Stmt{Kind: kind, Name: "a", Args: ones(n)}, false)
				checkStmt(t, w, api.Stmt{Kind: kind, Num: 1, Args: ones(n)}, false)
			}
		}
	}
	checkStmt(t, inSource, api.Stmt{Kind: 23, Args: ones(1)}, false)
	checkStmt(t, inSource, api.Stmt{Kind: 23, Name: "a", Args: ones(1)}, false)
	checkStmt(t, inBook(), api.Stmt{Kind: 23, Args: ones(1)}, true)
}

func TestPromise10_1And10_2ArgsOfStatements(t *testing.T) {
	for _, w := range languages() {
		for _, bad := range []api.Expr{{}, {Kind: 20}, {Kind: 5}, {Kind: 1, Num: 40000}, {Kind: 6, Op: 15, Args: ones(2)}} {
			for _, f := range stmtForms {
				for i := range f.least {
					s := w.plainStmt(f)
					s.Args[i] = bad
					checkStmt(t, w, s, false)
					s.Args[i] = not(bad)
					checkStmt(t, w, s, false)
				}
			}
			checkStmt(t, w, say(append(ones(7), bad)...), false)
		}
	}
}

func TestPromise10_1And10_2TheArgumentOfACall(t *testing.T) {
	for _, w := range languages() {
		for _, f := range exprForms {
			e := w.plainExpr(f)
			checkStmt(t, w, api.Stmt{Kind: 19, Args: []api.Expr{e}}, f.kind == w.callKind())
		}
		for _, n := range []int{0, 1, 2, 3, 8} {
			checkStmt(t, w, api.Stmt{Kind: 19, Args: []api.Expr{w.call(n)}}, true)
			checkStmt(t, w, api.Stmt{Kind: 19, Args: []api.Expr{not(w.call(n))}}, false)
		}
	}
}

func TestPromise10_1And10_2LongLists(t *testing.T) {
	for _, w := range languages() {
		for n, want := range map[int]bool{1: true, 255: true, 256: true, 257: false, 1000: false} {
			l := slices.Repeat(block(stop()), n)
			checkStmts := func(wrapped []api.Stmt) {
				t.Helper()
				checkBlock(t, w, wrapped, want)
			}
			checkStmts(l)
			checkStmts(block(ifThen(l, nil)))
			checkStmts(block(ifThen(nil, l)))
			checkStmts(block(stop(), ifThen(block(stop()), block(ifThen(l, nil)))))
			checkStmts(block(api.Stmt{Kind: 10, Args: ones(1), Body: block(ifThen(nil, l))}))
			each := w.plainStmt(stmtForms[10])
			each.Body = l
			checkStmts(block(each))
			checkStmts(block(ifThen(l, l), ifThen(l, l)))
		}
		full := slices.Repeat(block(ifThen(slices.Repeat(block(stop()), 256), slices.Repeat(block(stop()), 256))), 256)
		checkBlock(t, w, full, true)
	}
}

// nested is e within so many expressions, by wrap.
func nested(e api.Expr, wraps int, wrap func(e api.Expr) api.Expr) api.Expr {
	for range wraps {
		e = wrap(e)
	}
	return e
}

// nestedBlock is l within so many statements, by wrap.
func nestedBlock(l []api.Stmt, wraps int, wrap func(l []api.Stmt) api.Stmt) []api.Stmt {
	for range wraps {
		l = block(wrap(l))
	}
	return l
}

// exprWraps are ways to put an expression below another one.
func (w lang) exprWraps() []func(e api.Expr) api.Expr {
	wraps := []func(e api.Expr) api.Expr{
		not,
		func(e api.Expr) api.Expr { return add(e, one()) },
		func(e api.Expr) api.Expr { return add(one(), e) },
	}
	for _, n := range []int{1, 3, 8} {
		wraps = append(wraps, func(e api.Expr) api.Expr {
			call := w.call(n)
			call.Args[n-1] = e
			return call
		})
	}
	return wraps
}

// stmtWraps are ways to put statements into another one.
func (w lang) stmtWraps() []func(l []api.Stmt) api.Stmt {
	each := w.plainStmt(stmtForms[10])
	return []func(l []api.Stmt) api.Stmt{
		func(l []api.Stmt) api.Stmt { return ifThen(l, nil) },
		func(l []api.Stmt) api.Stmt { return ifThen(nil, l) },
		func(l []api.Stmt) api.Stmt { return ifThen(block(stop()), l) },
		func(l []api.Stmt) api.Stmt { return ifThen(l, block(stop())) },
		func(l []api.Stmt) api.Stmt { return api.Stmt{Kind: 10, Args: ones(1), Body: l} },
		func(l []api.Stmt) api.Stmt {
			s := each
			s.Body = l
			return s
		},
	}
}

func TestPromise10_1And10_2DepthOfExpressions(t *testing.T) {
	for _, w := range languages() {
		for _, wrap := range w.exprWraps() {
			for _, depth := range []int{1, 2, 3, 31, 32, 33, 34, 64, 65, 66, 100} {
				e := nested(one(), depth-1, wrap)
				checkExpr(t, w, e, depth <= mostDepth)
				checkExpr(t, w, title(e), depth+1 <= mostDepth)
			}
		}
	}
}

func TestPromise10_1And10_2DepthOfStatements(t *testing.T) {
	for _, w := range languages() {
		for _, wrap := range w.stmtWraps() {
			for _, depth := range []int{1, 2, 3, 31, 32, 33, 34, 64, 65, 66, 100} {
				checkBlock(t, w, nestedBlock(block(stop()), depth-1, wrap), depth <= mostDepth)
				checkBlock(t, w, nestedBlock(block(stop(), giving(one())), depth-2, wrap), depth <= mostDepth)
			}
			for blocks := 0; blocks <= 34; blocks++ {
				for depth := 1; depth <= 34; depth++ {
					l := nestedBlock(block(stop(), giving(nested(one(), depth-1, not))), blocks, wrap)
					checkBlock(t, w, l, blocks+1+depth <= mostDepth)
				}
			}
		}
		for depth := 29; depth <= 34; depth++ {
			checkBlock(t, w, block(say(title(nested(one(), depth-3, not)))), depth <= mostDepth)
			checkBlock(t, w, nestedBlock(block(ifThen(nil, nil)), depth-2, w.stmtWraps()[1]), depth <= mostDepth)
		}
	}
}

func TestPromise10_2IndicesOfExpressions(t *testing.T) {
	w := inBook()
	for kind, count := range map[int]int{14: globalCount, 15: localCount, 16: flagCount, 17: propCount, 19: textCount} {
		args := map[int]int{16: 1, 17: 1}[kind]
		for _, n := range append(numbers(), -1, 0, count-1, count, count+1) {
			e := api.Expr{Kind: kind, Num: n, Args: ones(args)}
			checkExpr(t, w, e, between(n, 0, count-1))
			if kind != 19 {
				checkArg(t, w, e, between(n, 0, count-1))
			}
			checkStmt(t, w, say(e), between(n, 0, count-1))
			checkExpr(t, lang{book: true}, e, false)
		}
	}
}

func TestPromise10_2IndicesOfStatements(t *testing.T) {
	w := inBook()
	for kind, count := range map[int]int{2: localCount, 3: localCount, 4: propCount, 5: flagCount, 6: flagCount, 11: localCount - 1, 17: daemonCount, 18: daemonCount, 23: globalCount} {
		f := stmtForms[kind-1]
		for _, n := range append(numbers(), -1, 0, count-1, count, count+1) {
			s := w.plainStmt(f)
			s.Num = n
			checkStmt(t, w, s, between(n, 0, count-1))
			checkBlock(t, lang{book: true}, block(s), false)
		}
	}
}

func TestPromise10_2LocalsOfAnEach(t *testing.T) {
	each := func(n int) []api.Stmt { return block(api.Stmt{Kind: 11, Num: n, Args: ones(1)}) }
	for locals := -1; locals <= 5; locals++ {
		for n := -2; n <= 6; n++ {
			checkBlock(t, lang{book: true, locals: locals}, each(n), n >= 0 && n+1 < locals)
		}
	}
	for _, locals := range []int{math.MinInt, -1, 0, 1} {
		for _, n := range numbers() {
			checkBlock(t, lang{book: true, locals: locals}, each(n), false)
		}
	}
	checkBlock(t, lang{book: true, locals: math.MaxInt}, each(math.MaxInt-2), true)
	checkBlock(t, lang{book: true, locals: math.MaxInt}, each(math.MaxInt-1), false)
	if tree.BoundBlock(api.Tables{}, each(math.MaxInt), math.MaxInt) {
		t.Error("an each whose second local has no number is Bound")
	}
}

func TestPromise10_2ArgsOfCalls(t *testing.T) {
	w := inBook()
	for i := range funcCount {
		for n := range 12 {
			e := api.Expr{Kind: 18, Num: i, Args: ones(n)}
			checkArg(t, w, e, n == paramsOf(i))
			checkStmt(t, w, api.Stmt{Kind: 19, Args: []api.Expr{e}}, n == paramsOf(i))
		}
	}
	for _, i := range append(numbers(), -1, funcCount, funcCount+1) {
		for n := range 10 {
			checkArg(t, w, api.Expr{Kind: 18, Num: i, Args: ones(n)}, between(i, 0, funcCount-1) && n == paramsOf(i))
		}
	}
}

func TestPromise10_2FunctionsWithoutParams(t *testing.T) {
	call := api.Expr{Kind: 18}
	for _, called := range numbers() {
		with := func(params ...int) lang {
			return lang{book: true, t: api.Tables{Funcs: []int{called}, Params: params}}
		}
		checkArg(t, with(), call, false)
		checkArg(t, with(0), call, called == 0)
		checkArg(t, with(0, 0, 0), call, between(called, 0, 2))
		checkArg(t, with(1, 1, 1), call, false)
		checkArg(t, with(-1, -1, -1), call, false)
	}
	checkArg(t, lang{book: true, t: api.Tables{Params: []int{0, 0}}}, call, false)
	// Only the Params count, not the Locals.
	checkArg(t, lang{book: true, t: api.Tables{Funcs: []int{0}, Locals: []int{0}}}, call, false)
}

func TestPromise10_2AnyTables(t *testing.T) {
	has := func(n int) api.Expr { return api.Expr{Kind: 16, Num: n, Args: ones(1)} }
	for _, flags := range numbers() {
		for _, n := range numbers() {
			checkArg(t, lang{book: true, t: api.Tables{Flags: flags}}, has(n), n >= 0 && n < flags)
		}
	}
	for _, locals := range numbers() {
		for _, n := range numbers() {
			checkArg(t, lang{book: true, locals: locals}, api.Expr{Kind: 15, Num: n}, n >= 0 && n < locals)
		}
	}
	many := lang{book: true, t: api.Tables{Globals: make([]int, 100), Props: make([]int, 100), Daemons: make([]int, 100), Texts: make([]string, 5000), Things: make([]api.Thing, 1)}}
	checkArg(t, many, api.Expr{Kind: 14, Num: 99}, true)
	checkArg(t, many, api.Expr{Kind: 17, Num: 99, Args: ones(1)}, true)
	checkExpr(t, many, api.Expr{Kind: 19, Num: 4999}, true)
	checkExpr(t, many, api.Expr{Kind: 19, Num: 5000}, false)
	checkStmt(t, many, api.Stmt{Kind: 18, Num: 99}, true)
}

func TestPromise10_2EmptyTables(t *testing.T) {
	w := lang{book: true}
	for _, f := range exprForms {
		e := w.plainExpr(f)
		checkExpr(t, w, e, f.source && f.book)
	}
	for _, f := range stmtForms {
		s := w.plainStmt(f)
		checkStmt(t, w, s, f.uses != "name" && f.uses != "name Body" && f.kind != 19)
	}
}

func TestPromise10_2NamesInABookAndNumbersInASource(t *testing.T) {
	for _, f := range exprForms {
		e := inSource.plainExpr(f)
		if f.has("Name", false) {
			checkExpr(t, inBook(), e, false)
		}
		e = inBook().plainExpr(f)
		e.Name = "a"
		checkExpr(t, inBook(), e, false)
		e = inSource.plainExpr(f)
		if f.kind != 1 {
			e.Num = 1
			checkExpr(t, inSource, e, false)
		}
	}
	for _, f := range stmtForms {
		s := inBook().plainStmt(f)
		checkStmt(t, inBook(), s, true)
		s.Name = "a"
		checkStmt(t, inBook(), s, false)
		s = inSource.plainStmt(f)
		checkStmt(t, inSource, s, f.kind != 23)
		s.Num = 1
		checkStmt(t, inSource, s, false)
		if f.uses == "name" || f.uses == "name Body" {
			checkStmt(t, inBook(), inSource.plainStmt(f), false)
			s.Name, s.Num = "", 0
			checkStmt(t, inSource, s, false)
		}
	}
}

// richExpr is an expression with something in all fields, at several places.
func richExpr() api.Expr {
	leaf := api.Expr{Kind: 3, Op: 2, Num: 5, Name: "leaf"}
	return api.Expr{Kind: 6, Op: 10, Num: 3, Name: "root", Args: []api.Expr{
		{Kind: 9, Op: 4, Num: 7, Name: "call", Args: []api.Expr{leaf, {}, leaf}},
		leaf,
		{Args: []api.Expr{{Args: []api.Expr{{}}}}},
	}}
}

// richBlock is statements with something in all fields, at several places.
func richBlock() []api.Stmt {
	return block(
		api.Stmt{Kind: 9, Num: 2, Name: "first", Args: []api.Expr{richExpr(), {}, richExpr()},
			Body: block(api.Stmt{Kind: 1, Num: 4, Name: "in", Args: []api.Expr{{}}}, api.Stmt{}),
			Else: block(ifThen(block(stop()), block(api.Stmt{}, giving(richExpr()))))},
		api.Stmt{},
		api.Stmt{Kind: 18, Name: "last"},
	)
}

// exprChanges each make one field of an expression another one.
func exprChanges() []func(e *api.Expr) {
	return []func(e *api.Expr){
		func(e *api.Expr) { e.Kind++ },
		func(e *api.Expr) { e.Kind = -e.Kind - 1 },
		func(e *api.Expr) { e.Op++ },
		func(e *api.Expr) { e.Op += 1 << 32 },
		func(e *api.Expr) { e.Num++ },
		func(e *api.Expr) { e.Num += 1 << 32 },
		func(e *api.Expr) { e.Name += "x" },
		func(e *api.Expr) { e.Name = "x" + e.Name },
		func(e *api.Expr) { e.Name += "\x00" },
		func(e *api.Expr) { e.Args = append(slices.Clone(e.Args), api.Expr{}) },
		func(e *api.Expr) { e.Args = append([]api.Expr{{Kind: 77}}, e.Args...) },
		func(e *api.Expr) {
			e.Args = append([]api.Expr{{Kind: 77}}, e.Args...)[:len(e.Args)]
			if len(e.Args) == 0 {
				e.Num--
			}
		},
		func(e *api.Expr) {
			if len(e.Args) == 0 {
				e.Op--
				return
			}
			e.Args = slices.Clone(e.Args[:len(e.Args)-1])
		},
	}
}

// stmtChanges each make one field of a statement another one.
func stmtChanges() []func(s *api.Stmt) {
	return []func(s *api.Stmt){
		func(s *api.Stmt) { s.Kind++ },
		func(s *api.Stmt) { s.Kind = -s.Kind - 1 },
		func(s *api.Stmt) { s.Num++ },
		func(s *api.Stmt) { s.Num += 1 << 32 },
		func(s *api.Stmt) { s.Name += "x" },
		func(s *api.Stmt) { s.Name = "x" + s.Name },
		func(s *api.Stmt) { s.Args = append(slices.Clone(s.Args), api.Expr{}) },
		func(s *api.Stmt) { s.Args = append([]api.Expr{{Kind: 77}}, s.Args...) },
		func(s *api.Stmt) { s.Body = append(slices.Clone(s.Body), api.Stmt{}) },
		func(s *api.Stmt) { s.Else = append(slices.Clone(s.Else), api.Stmt{}) },
		func(s *api.Stmt) { s.Body = append(block(api.Stmt{Kind: 77}), s.Body...) },
		func(s *api.Stmt) {
			s.Body, s.Else = s.Else, s.Body
			if len(s.Body) == 0 && len(s.Else) == 0 {
				s.Num--
			}
		},
	}
}

func TestPromise10_3SameOfExpressionsThatDiffer(t *testing.T) {
	checkSame(t, richExpr(), richExpr(), true)
	for i := range exprPlaces(new(richExpr())) {
		for _, change := range exprChanges() {
			changed := richExpr()
			change(exprPlaces(&changed)[i])
			checkSame(t, richExpr(), changed, false)
			checkSame(t, changed, copied(changed), true)
		}
	}
}

func TestPromise10_3SameOfStatementsThatDiffer(t *testing.T) {
	checkSameBlock(t, richBlock(), richBlock(), true)
	for i := range stmtPlaces(richBlock()) {
		for _, change := range stmtChanges() {
			changed := richBlock()
			change(stmtPlaces(changed)[i])
			checkSameBlock(t, richBlock(), changed, writtenBlock(richBlock()) == writtenBlock(changed))
			checkSameBlock(t, changed, copiedBlock(changed), true)
			if writtenBlock(richBlock()) == writtenBlock(changed) {
				t.Fatalf("the change of statement %d changes nothing", i)
			}
		}
	}
	for i := range argPlaces(richBlock()) {
		for _, change := range exprChanges() {
			changed := richBlock()
			change(argPlaces(changed)[i])
			checkSameBlock(t, richBlock(), changed, false)
		}
	}
	l := richBlock()
	checkSameBlock(t, l, l[:2], false)
	checkSameBlock(t, l, append(slices.Clone(l), api.Stmt{}), false)
	checkSameBlock(t, l, block(l[1], l[0], l[2]), false)
}

func TestPromise10_3SameWithNilAndEmptyLists(t *testing.T) {
	checkSame(t, api.Expr{}, api.Expr{Args: []api.Expr{}}, true)
	checkSame(t, api.Expr{}, api.Expr{Args: []api.Expr{{}}}, false)
	checkSameBlock(t, nil, []api.Stmt{}, true)
	checkSameBlock(t, nil, block(api.Stmt{}), false)
	checkSameBlock(t, block(api.Stmt{}), block(api.Stmt{Args: []api.Expr{}, Body: []api.Stmt{}, Else: []api.Stmt{}}), true)
	checkSameBlock(t, block(api.Stmt{}), block(api.Stmt{Args: []api.Expr{}, Body: block(api.Stmt{}), Else: []api.Stmt{}}), false)
	emptied := richBlock()
	for _, s := range stmtPlaces(emptied) {
		s.Args, s.Body, s.Else = append([]api.Expr{}, s.Args...), append([]api.Stmt{}, s.Body...), append([]api.Stmt{}, s.Else...)
	}
	for _, e := range argPlaces(emptied) {
		e.Args = append(make([]api.Expr, 0, 9), e.Args...)
	}
	checkSameBlock(t, richBlock(), emptied, true)
	for i, e := range argPlaces(emptied) {
		checkSame(t, *argPlaces(richBlock())[i], *e, true)
	}
}

func TestPromise10_3SizeAndDepthOfExamples(t *testing.T) {
	for _, example := range []struct {
		e           api.Expr
		size, depth int
	}{
		{api.Expr{}, 1, 1},
		{one(), 1, 1},
		{not(one()), 2, 2},
		{add(one(), one()), 3, 2},
		{add(not(not(one())), one()), 5, 4},
		{add(one(), not(not(one()))), 5, 4},
		{inSource.call(8), 9, 2},
		{api.Expr{Kind: 1, Args: ones(3)}, 4, 2},
		{api.Expr{Kind: -5, Args: []api.Expr{{Args: ones(20)}, {}}}, 23, 3},
		{richExpr(), 9, 4},
	} {
		if size, depth := tree.Size(example.e), tree.Depth(example.e); size != example.size || depth != example.depth {
			t.Errorf("%s has size %d and depth %d, want %d and %d", written(example.e), size, depth, example.size, example.depth)
		}
		checkMeasures(t, example.e)
	}
}

func TestPromise10_3SizeAndDepthOfExampleBlocks(t *testing.T) {
	for _, example := range []struct {
		l           []api.Stmt
		size, depth int
	}{
		{nil, 0, 0},
		{[]api.Stmt{}, 0, 0},
		{block(stop()), 1, 1},
		{block(api.Stmt{}), 1, 1},
		{block(stop(), stop(), stop()), 3, 1},
		{block(giving(one())), 1, 2},
		{block(giving(not(not(one())))), 1, 4},
		{block(stop(), say(one(), one(), not(one())), stop()), 3, 3},
		{block(ifThen(nil, nil)), 1, 2},
		{block(ifThen(block(stop()), nil)), 2, 2},
		{block(ifThen(nil, block(stop()))), 2, 2},
		{block(ifThen(block(stop(), stop()), block(stop()))), 4, 2},
		{block(ifThen(block(stop()), block(giving(one())))), 3, 3},
		{block(ifThen(block(giving(not(one()))), block(stop()))), 3, 4},
		{block(api.Stmt{Body: block(stop()), Else: block(api.Stmt{Body: block(stop())})}), 4, 3},
		{block(api.Stmt{Kind: 13, Args: ones(9), Body: block(stop())}, stop()), 3, 2},
	} {
		if size, depth := tree.SizeBlock(example.l), tree.DepthBlock(example.l); size != example.size || depth != example.depth {
			t.Errorf("%s has size %d and depth %d, want %d and %d", writtenBlock(example.l), size, depth, example.size, example.depth)
		}
		checkMeasuresBlock(t, example.l)
	}
}

func TestPromise10_3TheGreatestDepth(t *testing.T) {
	for _, w := range languages() {
		for _, wrap := range w.exprWraps() {
			for _, depth := range []int{1, 2, 32, 33, 61, 62, 63, 64, 65, 66, 67, 140} {
				e := nested(one(), depth-1, wrap)
				checkMeasures(t, e)
				checkMeasuresBlock(t, block(giving(e)))
				checkMeasuresBlock(t, block(stop(), ifThen(nil, block(say(one(), e)))))
			}
		}
		for _, wrap := range w.stmtWraps() {
			for _, depth := range []int{1, 2, 32, 33, 61, 62, 63, 64, 65, 66, 67, 140} {
				checkMeasuresBlock(t, nestedBlock(block(stop()), depth-1, wrap))
				checkMeasuresBlock(t, nestedBlock(block(giving(not(one()))), depth-1, wrap))
			}
		}
	}
	for depth, want := range map[int]int{63: 63, 64: 64, 65: 65, 66: 65, 67: 65, 200: 65} {
		e := nested(one(), depth-1, not)
		if got := tree.Depth(e); got != want {
			t.Errorf("Depth is %d for %d levels", got, depth)
		}
		if got := tree.DepthBlock(block(giving(e.Args[0]))); got != want {
			t.Errorf("DepthBlock is %d for %d levels of Args", got, depth)
		}
		for _, wrap := range inSource.stmtWraps() {
			if got := tree.DepthBlock(nestedBlock(block(stop()), depth-1, wrap)); got != want {
				t.Errorf("DepthBlock is %d for %d levels", got, depth)
			}
		}
	}
}

// grower makes trees out of choices.
type grower struct {
	lang
	choose func(n int) int // a number below n
	spoil  int             // every so many parts have something unusual; 0: none
}

// spoils decides whether the next part has something unusual.
func (g grower) spoils() bool { return g.spoil > 0 && g.choose(g.spoil) == 0 }

// pick is one of the elements of a list.
func pick[T any](g grower, l []T) T { return l[g.choose(len(l))] }

// expr is an expression with at most that depth; texts and titles only where they may be said.
func (g grower) expr(depth int, said bool) api.Expr {
	var forms []form
	for _, f := range exprForms {
		sayable := f.kind == g.textKind() || f.kind == 13
		if f.in(g.book) && (f.least == 0 || depth > 1) && (said || !sayable) {
			forms = append(forms, f)
		}
	}
	f := pick(g, forms)
	e := g.plainExpr(f)
	e.Op = min(f.ops, 1+g.choose(14))
	switch {
	case f.has("Name", g.book):
		e.Name = pick(g, goodNames())
	case f.kind == 1:
		e.Num = pick(g, []int{0, 1, 300, 32767})
	case f.kind == 18 && depth > 1:
		e = g.call(pick(g, []int{0, 1, 2, 3, 8}))
	case f.kind != 18 && f.has("Num", g.book):
		e.Num = g.choose(g.exprCount(f.kind))
	}
	if f.kind == 9 && depth > 1 {
		e.Args = ones(g.choose(9))
	}
	for i := range e.Args {
		e.Args[i] = g.expr(depth-1, false)
	}
	if g.spoils() {
		g.spoilExpr(&e)
	}
	return e
}

// block is statements with at most that depth.
func (g grower) block(depth int) []api.Stmt {
	var l []api.Stmt
	for range g.choose(4) {
		if depth > 1 {
			l = append(l, g.stmt(depth))
		}
	}
	return l
}

// stmt is a statement of a list with at most that depth.
func (g grower) stmt(depth int) api.Stmt {
	forms := stmtForms
	if !g.book {
		forms = forms[:22]
	}
	f := pick(g, forms)
	s := g.plainStmt(f)
	if f.has("Name", g.book) {
		s.Name = pick(g, goodNames())
	}
	switch {
	case f.kind == 1:
		s.Args = ones(1 + g.choose(8))
	case f.kind == 11 && g.book:
		s.Num = g.choose(g.locals - 1)
	case f.has("Num", g.book):
		s.Num = g.choose(g.stmtCount(f.kind))
	}
	for i := range s.Args {
		if f.kind != 19 {
			s.Args[i] = g.expr(min(depth-1, 1+g.choose(6)), f.kind == 1)
		}
	}
	if f.has("Body", g.book) {
		s.Body = g.block(depth - 1)
	}
	if f.has("Else", g.book) {
		s.Else = g.block(depth - 1)
	}
	if g.spoils() {
		g.spoilStmt(&s)
	}
	return s
}

// spoilExpr puts something unusual into an expression.
func (g grower) spoilExpr(e *api.Expr) {
	switch g.choose(9) {
	case 0:
		e.Kind = g.choose(22) - 1
	case 1:
		e.Op = pick(g, numbers())
	case 2:
		e.Num = pick(g, numbers())
	case 3:
		e.Name = pick(g, append(badNames(), badTexts()...))
	case 4:
		e.Args = append(slices.Clone(e.Args), pick(g, g.sayables()))
	case 5:
		e.Args = e.Args[:max(0, len(e.Args)-1)]
	case 6:
		*e = pick(g, g.sayables())
	case 7:
		*e = nested(*e, g.choose(40), pick(g, g.exprWraps()))
	case 8:
		e.Args = append(slices.Clone(e.Args), one())
	}
}

// spoilStmt puts something unusual into a statement.
func (g grower) spoilStmt(s *api.Stmt) {
	switch g.choose(9) {
	case 0:
		s.Kind = g.choose(26) - 1
	case 1:
		s.Num = pick(g, numbers())
	case 2:
		s.Name = pick(g, append(badNames(), goodNames()...))
	case 3:
		s.Args = append(slices.Clone(s.Args), one())
	case 4:
		s.Args = s.Args[:max(0, len(s.Args)-1)]
	case 5:
		s.Body = append(slices.Clone(s.Body), stop())
	case 6:
		s.Else = append(slices.Clone(s.Else), stop())
	case 7:
		*s = nestedBlock(block(*s), 1+g.choose(40), pick(g, g.stmtWraps()))[0]
	case 8:
		s.Body = slices.Repeat(block(stop()), 255+g.choose(4))
	}
}

// seeded is choices from a seed.
func seeded(seed uint32) func(n int) int {
	return func(n int) int {
		seed = seed*1664525 + 1013904223
		return int(seed>>8) % n
	}
}

func TestGrownTreesAgreeWithTheDefinitions(t *testing.T) {
	for _, w := range languages() {
		for _, spoil := range []int{0, 5, 60} {
			g := grower{lang: w, choose: seeded(1), spoil: spoil}
			valid := map[bool]int{}
			for i := range 3000 {
				e, l := g.expr(1+i%9, true), g.block(3+i%7)
				checkExpr(t, w, e, w.validExpr(e))
				checkBlock(t, w, l, w.validBlock(l))
				checkConsequences(t, e)
				checkMeasures(t, e)
				checkMeasuresBlock(t, l)
				valid[w.validExpr(e) && w.validBlock(l)]++
			}
			if valid[true] == 0 || valid[false] == 0 && spoil > 0 || valid[false] > 0 && spoil == 0 {
				t.Errorf("in a %s with one of %d parts spoiled, %d pairs of trees are valid and %d not", w, spoil, valid[true], valid[false])
			}
		}
	}
}

// checkConsequences checks 10.4 for e.
func checkConsequences(t *testing.T, e api.Expr) {
	t.Helper()
	same := copied(e)
	right, bound := tree.Right(e), inBook().expr(e)
	if !tree.Same(e, same) || tree.Size(e) != tree.Size(same) || tree.Depth(e) != tree.Depth(same) ||
		tree.Right(same) != right || inBook().expr(same) != bound {
		t.Errorf("%s differs from its copy", short(written(e)))
	}
	if right && tree.Depth(e) > mostDepth {
		t.Errorf("%s is Right with a depth of %d", short(written(e)), tree.Depth(e))
	}
	for i, below := range exprs(e) {
		if right && !tree.Right(below) {
			t.Errorf("%s is not Right below %s", short(written(below)), short(written(e)))
		}
		if right && i > 0 && (below.Kind == 2 || below.Kind == 13) {
			t.Errorf("%s lies below %s", short(written(below)), short(written(e)))
		}
		if bound && below.Name != "" {
			t.Errorf("%s is Bound with a name", short(written(e)))
		}
		if right && (below.Kind >= 14 || below.Kind != 1 && below.Num != 0) {
			t.Errorf("%s is Right with a number in the place of a name", short(written(e)))
		}
	}
}

func TestPromise10_4EqualTrees(t *testing.T) {
	for _, w := range languages() {
		g := grower{lang: w, choose: seeded(7), spoil: 20}
		for range 2000 {
			a, b := g.block(6), g.block(6)
			checkSameBlock(t, a, copiedBlock(a), true)
			checkSameBlock(t, a, b, writtenBlock(a) == writtenBlock(b))
			same := copiedBlock(a)
			if tree.SizeBlock(a) != tree.SizeBlock(same) || tree.DepthBlock(a) != tree.DepthBlock(same) || w.block(a) != w.block(same) {
				t.Errorf("%s differs from its copy", short(writtenBlock(a)))
			}
			e, f := g.expr(2, true), g.expr(2, true)
			checkSame(t, e, f, written(e) == written(f))
		}
	}
}

func TestPromise10_4BelowARightExpression(t *testing.T) {
	for _, f := range exprForms {
		e := inSource.plainExpr(f)
		if f.least == 0 {
			continue
		}
		e.Args[0] = nested(inSource.call(8), 20, not)
		checkConsequences(t, e)
		e.Args[0] = nested(api.Expr{Kind: 1, Num: -1}, 20, not)
		checkConsequences(t, e)
		checkExpr(t, inSource, e, false)
	}
	checkConsequences(t, nested(one(), 31, not))
	checkConsequences(t, nested(one(), 32, not))
}

func TestPromise10_4NamesAndNumbers(t *testing.T) {
	for _, f := range exprForms {
		for _, name := range []string{"", "a"} {
			for n := range 3 {
				e := api.Expr{Kind: f.kind, Op: min(f.ops, 1), Num: n, Name: name, Args: ones(f.least)}
				checkConsequences(t, e)
				for _, wrap := range inBook().exprWraps() {
					checkConsequences(t, wrap(e))
				}
			}
		}
	}
}

// P1: every call ends, also for trees that are as deep as the promises reach.
func TestDeepTrees(t *testing.T) {
	const levels = 1 << 16
	for _, w := range languages() {
		deep := nested(one(), levels-1, not)
		l := nestedBlock(block(giving(one())), levels-1, w.stmtWraps()[2])
		if w.expr(deep) || w.block(l) || tree.Depth(deep) != tooDeep || tree.DepthBlock(l) != tooDeep {
			t.Errorf("the depth in a %s", w)
		}
		if tree.Size(deep) != levels || tree.SizeBlock(l) != 2*levels-1 {
			t.Errorf("the size is %d and %d in a %s", tree.Size(deep), tree.SizeBlock(l), w)
		}
		other := nested(api.Expr{Kind: 1, Num: 2}, levels-1, not)
		checkSame(t, deep, copied(deep), true)
		if tree.Same(deep, other) || !tree.SameBlock(l, copiedBlock(l)) || tree.SameBlock(l, l[0].Else) {
			t.Errorf("the equality in a %s", w)
		}
	}
}

// P1: what is too deep is not visited as a whole.
func TestWideAndDeepTrees(t *testing.T) {
	e := nested(one(), 100, func(e api.Expr) api.Expr { return add(e, e) })
	l := nestedBlock(block(stop()), 100, func(l []api.Stmt) api.Stmt { return ifThen(l, l) })
	for _, w := range languages() {
		if w.expr(e) || w.block(l) || w.block(block(giving(e))) {
			t.Errorf("a tree with 101 levels is valid in a %s", w)
		}
	}
	if tree.Depth(e) != tooDeep || tree.DepthBlock(l) != tooDeep || tree.DepthBlock(block(ifThen(l, l), giving(e))) != tooDeep {
		t.Error("the depth of a tree with 101 levels")
	}
}

// P1: any numbers and names in any field.
func TestAnyFields(t *testing.T) {
	for _, n := range numbers() {
		for kind := -1; kind <= 25; kind++ {
			for args := range 3 {
				e := api.Expr{Kind: kind, Op: n, Num: n, Name: "\xff", Args: ones(args)}
				s := api.Stmt{Kind: kind, Num: n, Name: "\xff", Args: ones(args), Body: block(stop()), Else: block(api.Stmt{Kind: n})}
				for _, w := range languages() {
					checkExpr(t, w, e, w.validExpr(e))
					checkBlock(t, w, block(s), w.validBlock(block(s)))
				}
				checkMeasures(t, e)
				checkMeasuresBlock(t, block(s))
			}
		}
	}
}

// R3 and R4: no call changes its arguments, and each answers the same whenever it is called.
func TestCallsChangeAndRememberNothing(t *testing.T) {
	for _, w := range languages() {
		g := grower{lang: w, choose: seeded(3), spoil: 30}
		table := fmt.Sprint(w.t)
		for range 500 {
			e, l := g.expr(5, true), g.block(6)
			was, wasBlock := written(e), writtenBlock(l)
			answer := func() string {
				return fmt.Sprint(w.expr(e), w.block(l), tree.Size(e), tree.SizeBlock(l), tree.Depth(e), tree.DepthBlock(l), tree.Same(e, e), tree.SameBlock(l, l))
			}
			if first, second := answer(), answer(); first != second {
				t.Fatalf("%s, then %s for %s and %s", first, second, was, wasBlock)
			}
			if written(e) != was || writtenBlock(l) != wasBlock || fmt.Sprint(w.t) != table {
				t.Fatalf("%s and %s were changed", was, wasBlock)
			}
		}
	}
}

// fed is choices from bytes; 0 behind their end.
func fed(data []byte) func(n int) int {
	return func(n int) int {
		if len(data) == 0 {
			return 0
		}
		c := int(data[0])
		data = data[1:]
		return c % n
	}
}

// FuzzPromise10 checks any trees against the definitions.
func FuzzPromise10(f *testing.F) {
	f.Add([]byte("a tin box"), false, 3)
	f.Add([]byte("\x08\x01\x02\x03\x04\x05\x06\x07\x08\x09"), true, 2)
	f.Add([]byte(strings.Repeat("\x03\x0a\x01\xff", 30)), true, 0)
	f.Fuzz(func(t *testing.T, data []byte, book bool, spoil int) {
		w := inSource
		if book {
			w = inBook()
		}
		g := grower{lang: w, choose: fed(data), spoil: max(0, spoil%64)}
		e, l, other := g.expr(6, true), g.block(7), g.block(7)
		for _, w := range languages() {
			checkExpr(t, w, e, w.validExpr(e))
			checkBlock(t, w, l, w.validBlock(l))
		}
		checkConsequences(t, e)
		checkMeasures(t, e)
		checkMeasuresBlock(t, l)
		checkSameBlock(t, l, other, writtenBlock(l) == writtenBlock(other))
	})
}
