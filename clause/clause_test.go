package clause_test

import (
	"slices"
	"strconv"
	"strings"
	"testing"

	"clew/api"
	"clew/clause"
	"clew/lex"
	"clew/tree"
)

// The limits that the chapter names.
const (
	mostDepth = 32
	mostItems = 8
	mostStmts = 256
)

func number(n int) api.Expr     { return api.Expr{Kind: 1, Num: n} }
func text(s string) api.Expr    { return api.Expr{Kind: 2, Name: s} }
func named(s string) api.Expr   { return api.Expr{Kind: 3, Name: s} }
func neg(e api.Expr) api.Expr   { return api.Expr{Kind: 4, Args: []api.Expr{e}} }
func not(e api.Expr) api.Expr   { return api.Expr{Kind: 5, Args: []api.Expr{e}} }
func self(op int) api.Expr      { return api.Expr{Kind: 12, Op: op} }
func title(e api.Expr) api.Expr { return api.Expr{Kind: 13, Args: []api.Expr{e}} }

func bin(a api.Expr, op int, b api.Expr) api.Expr {
	return api.Expr{Kind: 6, Op: op, Args: []api.Expr{a, b}}
}
func prop(e api.Expr, name string) api.Expr {
	return api.Expr{Kind: 8, Name: name, Args: []api.Expr{e}}
}
func call(name string, args ...api.Expr) api.Expr {
	return api.Expr{Kind: 9, Name: name, Args: args}
}
func treeOf(op int, e api.Expr) api.Expr {
	return api.Expr{Kind: 10, Op: op, Args: []api.Expr{e}}
}

// stmt is a statement with a name and Args.
func stmt(kind int, name string, args ...api.Expr) api.Stmt {
	return api.Stmt{Kind: kind, Name: name, Args: args}
}

// block is a list of statements.
func block(l ...api.Stmt) []api.Stmt { return l }

// ifOf is an if with its blocks.
func ifOf(e api.Expr, body, otherwise []api.Stmt) api.Stmt {
	return api.Stmt{Kind: 9, Args: []api.Expr{e}, Body: body, Else: otherwise}
}

func whileOf(e api.Expr, body ...api.Stmt) api.Stmt {
	return api.Stmt{Kind: 10, Args: []api.Expr{e}, Body: body}
}

func eachOf(name string, e api.Expr, body ...api.Stmt) api.Stmt {
	return api.Stmt{Kind: 11, Name: name, Args: []api.Expr{e}, Body: body}
}

// deep is the text of an expression of that depth, with three tokens and a few bytes more for each level.
func deep(depth int) string {
	return "a" + strings.Repeat(".x", depth-1)
}

// deepExpr is the expression with the text deep.
func deepExpr(depth int) api.Expr {
	e := named("a")
	for range depth - 1 {
		e = prop(e, "x")
	}
	return e
}

// tokens is the tokens of s without the TokEnd.
func tokens(s string) []api.Tok {
	l := ended(s)
	return l[:len(l)-1]
}

// ended is the tokens of s with the TokEnd.
func ended(s string) []api.Tok {
	l, fail := lex.All(s)
	if fail != (api.Fail{}) {
		panic(s)
	}
	return l
}

// placed is the tokens with positions that differ from one another.
func placed(l []api.Tok) []api.Tok {
	l = slices.Clone(l)
	for i := range l {
		l[i].Line, l[i].Col = 7+i/3, 20+5*i
	}
	return l
}

// shown is tokens for a message.
func shown(l []api.Tok) string {
	s := lex.Print(l)
	return s[:min(len(s), 300)] + " (" + strconv.Itoa(len(l)) + " tokens)"
}

// parser is Parse or Block; what Parse returns is a list of one statement then.
type parser func(l []api.Tok) ([]api.Stmt, int, api.Fail)

// parseOne is Parse as a parser; with a failure, its statement must be a zero one.
func parseOne(l []api.Tok) ([]api.Stmt, int, api.Fail) {
	s, used, fail := clause.Parse(l)
	if fail != (api.Fail{}) && tree.SameBlock(block(s), block(api.Stmt{})) {
		return nil, used, fail
	}
	return block(s), used, fail
}

// check checks what parse returns for l.
func check(t *testing.T, parse parser, l []api.Tok, want []api.Stmt, used int, wantFail api.Fail) {
	t.Helper()
	got, n, fail := parse(l)
	if !tree.SameBlock(got, want) || n != used || fail != wantFail {
		t.Fatalf("%s\ngives %+v, %d, %+v\nwant %+v, %d, %+v", shown(l), got, n, fail, want, used, wantFail)
	}
}

// checkParsed checks that parse returns want and uses all tokens of src, whatever stands behind them.
func checkParsed(t *testing.T, parse parser, src string, want []api.Stmt) {
	t.Helper()
	l := tokens(src)
	check(t, parse, l, want, len(l), api.Fail{})
	for _, behind := range []string{"", "stop;", "}", "{", ";", "1", ")", "if", `"t"`} {
		check(t, parse, ended(src+" "+behind), want, len(l), api.Fail{})
	}
}

// checkStmt checks the statement that src is as a whole.
func checkStmt(t *testing.T, src string, want api.Stmt) {
	t.Helper()
	checkParsed(t, parseOne, src, block(want))
}

// checkBlock checks the block that src is as a whole.
func checkBlock(t *testing.T, src string, want []api.Stmt) {
	t.Helper()
	checkParsed(t, clause.Block, src, want)
}

// checkPasses checks that parse uses all tokens of src.
func checkPasses(t *testing.T, parse parser, src string) {
	t.Helper()
	l := ended(src)
	if _, used, fail := parse(l); used != len(l)-1 || fail != (api.Fail{}) {
		t.Fatalf("%s\ngives %d, %+v", shown(l), used, fail)
	}
}

// checkFails checks the failure of src, which is at the token behind the mark @, on the first line.
func checkFails(t *testing.T, parse parser, err api.Errno, src string) {
	t.Helper()
	ahead, behind, ok := strings.Cut(src, "@")
	if !ok {
		t.Fatalf("%s has no mark", src)
	}
	spaces := len(behind) - len(strings.TrimLeft(behind, " "))
	check(t, parse, ended(ahead+behind), nil, 0, api.Fail{Err: err, Line: 1, Col: 1 + len(ahead) + spaces})
}

// checkFail checks the failure of the statement src.
func checkFail(t *testing.T, err api.Errno, src string) {
	t.Helper()
	checkFails(t, parseOne, err, src)
}

// checkFailBoth checks the failure of the statement src, also as the last one of a block.
func checkFailBoth(t *testing.T, err api.Errno, src string) {
	t.Helper()
	checkFail(t, err, src)
	checkFails(t, clause.Block, err, "{ look; "+src)
}

// checkVerdict checks how many tokens of l are used, or the failure.
func checkVerdict(t *testing.T, parse parser, l []api.Tok, want verdict) {
	t.Helper()
	got, used, fail := parse(l)
	if used != want.used || fail != want.fail || fail != (api.Fail{}) && len(got) > 0 {
		t.Fatalf("%s\ngives %+v, %d, %+v\nwant %+v", shown(l), got, used, fail, want)
	}
	if len(got) == 0 {
		return
	}
	printed := ""
	for _, s := range got {
		printed += clause.Print(s, 0)
	}
	if found, wanted := bare(tokens(printed)), bare(l[:used]); found != wanted && !strings.Contains(wanted, "else") {
		t.Fatalf("%s\ngives %+v, which is printed as %s", shown(l), got, printed)
	}
}

// bare is tokens without parentheses and braces, which need not be printed as they are read.
func bare(l []api.Tok) string {
	return strings.NewReplacer("(", "", ")", "", "{", "", "}", "", " ", "").Replace(lex.Print(l))
}

// sample is the text of a statement as it is printed, and the statement.
type sample struct {
	src  string
	want api.Stmt
}

// samples is statements of each kind with all that they can hold.
func samples() []sample {
	a, b, one := named("a"), named("b"), number(1)
	stop, win := stmt(13, ""), stmt(14, "")
	return []sample{
		{`say 1;`, stmt(1, "", one)},
		{`say "a";`, stmt(1, "", text("a"))},
		{`say title(a);`, stmt(1, "", title(a))},
		{`say not a, "a\n\"b\\", title(a + 1), b or 1, "", f(a, b), -a, here;`, stmt(1, "", not(a), text("a\n\"b\\"), title(bin(a, 10, one)), bin(b, 1, one), text(""), call("f", a, b), neg(a), self(1))},
		{`let a = b;`, stmt(2, "a", b)},
		{`let x_1 = not a and b;`, stmt(2, "x_1", bin(not(a), 2, b))},
		{`a = b;`, stmt(3, "a", b)},
		{`lamp = 1 + lamp;`, stmt(3, "lamp", bin(one, 10, named("lamp")))},
		{`a.x = b;`, stmt(4, "x", a, b)},
		{`a.x.y = b.x;`, stmt(4, "y", prop(a, "x"), prop(b, "x"))},
		{`f(a, 1).x = 1;`, stmt(4, "x", call("f", a, one), one)},
		{`5.x = 1;`, stmt(4, "x", number(5), one)},
		{`(a + b).x = a or b;`, stmt(4, "x", bin(a, 10, b), bin(a, 1, b))},
		{`here.x = 1;`, stmt(4, "x", self(1), one)},
		{`parent(a).x = 1;`, stmt(4, "x", treeOf(1, a), one)},
		{`set a is lit;`, stmt(5, "lit", a)},
		{`set a has lit is open;`, stmt(5, "open", api.Expr{Kind: 7, Name: "lit", Args: []api.Expr{a}})},
		{`unset child(a) is lit;`, stmt(6, "lit", treeOf(2, a))},
		{`move a to b;`, stmt(7, "", a, b)},
		{`move noun to parent(here);`, stmt(7, "", self(3), treeOf(1, self(1)))},
		{`remove noun;`, stmt(8, "", self(3))},
		{"if a {\n}", ifOf(a, nil, nil)},
		{"if a == b {\n\tstop;\n\twin;\n}", ifOf(bin(a, 3, b), block(stop, win), nil)},
		{"if a {\n} else {\n\tstop;\n}", ifOf(a, nil, block(stop))},
		{"if a {\n\tstop;\n} else if b {\n\twin;\n} else {\n\tstop;\n\twin;\n}", ifOf(a, block(stop), block(ifOf(b, block(win), block(stop, win))))},
		{"while a in b {\n}", whileOf(bin(a, 9, b))},
		{"while 1 {\n\tstop;\n\twhile 1 {\n\t\twin;\n\t}\n}", whileOf(one, stop, whileOf(one, win))},
		{"each a in b {\n}", eachOf("a", b)},
		{"each a in b in b {\n\tstop;\n\twin;\n}", eachOf("a", bin(b, 9, b), stop, win)},
		{`return a - 1;`, stmt(12, "", bin(a, 11, one))},
		{`stop;`, stop},
		{`win;`, win},
		{`lose;`, stmt(15, "")},
		{`award -5;`, stmt(16, "", neg(number(5)))},
		{`start d in 3;`, stmt(17, "d", number(3))},
		{`start d in a in b;`, stmt(17, "d", bin(a, 9, b))},
		{`halt d;`, stmt(18, "d")},
		{`f();`, stmt(19, "", call("f"))},
		{`f(1, g(a), (a == b) == 1);`, stmt(19, "", call("f", one, call("g", a), bin(bin(a, 3, b), 3, one)))},
		{`travel 3;`, stmt(20, "", number(3))},
		{`look;`, stmt(21, "")},
		{`list here;`, stmt(22, "", self(1))},
	}
}

// alphabet is all kinds of tokens with which something begins or goes on in statements, and a few others.
func alphabet() []api.Tok {
	return append(tokens(`a 5 "t" say let set unset move remove if else while each return stop win lose award start halt
		travel look list in is to title here parent random not or and has = == + - * . , ; ( ) { } < | any north story`), api.Tok{})
}

func TestPromise12_1Examples(t *testing.T) {
	l := ended(`say 1, "a";`)
	check(t, parseOne, l, block(stmt(1, "", number(1), text("a"))), 5, api.Fail{})
	checkStmt(t, "a.b = 2;", stmt(4, "b", named("a"), number(2)))
	checkFail(t, api.ErrToken, "(a) @= 2;")
	checkStmt(t, "if 1 { stop; } else if 2 { }", ifOf(number(1), block(stmt(13, "")), block(ifOf(number(2), nil, nil))))
}

func TestPromise12_1EachKind(t *testing.T) {
	kinds := map[int]bool{}
	all := "{ "
	var list []api.Stmt
	for _, c := range samples() {
		checkStmt(t, c.src, c.want)
		checkBlock(t, "{ "+c.src+" }", block(c.want))
		kinds[c.want.Kind] = true
		all += c.src + "\n"
		list = append(list, c.want)
	}
	if len(kinds) != 22 {
		t.Fatalf("only %d kinds are checked", len(kinds))
	}
	checkBlock(t, all+"}", list)
	checkBlock(t, "{ while 1 "+all+"} }", block(whileOf(number(1), list...)))
	checkStmt(t, "if 1 "+all+"} else "+all+"}", ifOf(number(1), list, list))
	checkStmt(t, "each a in b "+all+"}", eachOf("a", named("b"), list...))
}

// TestPromise12_1FormsOfElse checks an else with a block, and one that is followed by if.
func TestPromise12_1FormsOfElse(t *testing.T) {
	one, two, stop := number(1), number(2), stmt(13, "")
	inner := ifOf(two, block(stop), nil)
	checkStmt(t, "if 1 { } else { }", ifOf(one, nil, nil))
	checkStmt(t, "if 1 { stop; } else if 2 { stop; }", ifOf(one, block(stop), block(inner)))
	checkStmt(t, "if 1 { stop; } else { if 2 { stop; } }", ifOf(one, block(stop), block(inner)))
	checkStmt(t, "if 1 { } else { if 2 { stop; } stop; }", ifOf(one, nil, block(inner, stop)))
	checkStmt(t, "if 1 { if 2 { stop; } else { stop; } }", ifOf(one, block(ifOf(two, block(stop), block(stop))), nil))
	checkStmt(t, "if 1 { if 2 { stop; } } else { stop; }", ifOf(one, block(inner), block(stop)))
	checkStmt(t, "if 1 { } else if 2 { stop; } else if 1 { } else { stop; }", ifOf(one, nil, block(ifOf(two, block(stop), block(ifOf(one, nil, block(stop)))))))
	checkBlock(t, "{ if 1 { } else if 2 { stop; } stop; }", block(ifOf(one, nil, block(inner)), stop))
	for _, wrong := range []string{"stop;", ";", "while 1 { }", "else { }", "}", "1", "(", "a = 1;", "each a in b { }", `"t"`} {
		checkFailBoth(t, api.ErrToken, "if 1 { } else @"+wrong)
		checkFailBoth(t, api.ErrToken, "if 1 { } else if 2 { } else @"+wrong)
	}
	checkFailBoth(t, api.ErrShort, "if 1 { } else@")
	checkFailBoth(t, api.ErrShort, "if 1 { } else if@")
	checkFails(t, clause.Block, api.ErrToken, "{ if 1 { } else { } @else { } }")
	checkFails(t, clause.Block, api.ErrToken, "{ while 1 { } @else { } }")
	checkFails(t, clause.Block, api.ErrToken, "{ @else { } }")
}

// TestPromise12_1WrongTokens checks a wrong token in each place of each kind of statement.
func TestPromise12_1WrongTokens(t *testing.T) {
	for _, src := range []string{
		"say @;", "say @, 1;", "say 1 @2;", "say 1, @;", `say "a" @"b";`, `say "a" @+ 1;`, `say 1 + @"a";`, "say title @a;", "say title(@);", "say title(a @;", "say title(a) @+ 1;", "say title(@title(a));", `say title(@"a");`, "say 1 @}", "say 1, 2 @{",
		"let @= 1;", "let @5 = 1;", "let @let = 1;", "let a @== 1;", "let a @1;", "let a @. x = 1;", "let a = @;", `let a = @"b";`, "let a = @title(b);", "let a = b @= c;", "let a = 1 @}", "let a = 1 @stop;",
		"a @;", "a @== 1;", "a @+ 1;", "a @5;", "a @a = 1;", "a @, b;", "a = @;", `a = @"b";`, "a = 1 @2;", "a = b @= c;", "a @in b;", "a @{ }", "a @}", "a @)",
		"a.@5 = 1;", "a.@;", "a.@= 1;", "a.@.x = 1;", "a.@in = 1;", "a.x @;", "a.x @+ 1;", "a.x @(1);", "a.x @== 1;", "a.x = @;", "a.x = 1 @=", "a.x @has lit;",
		"set @;", "set a @;", "set a @lit;", "set a is @;", "set a is @5;", "set a is @not lit;", "set a is lit @, open;", "set a is lit @is open;", "set @is lit;", "set a @= 1;", "set a is @in;",
		"unset @;", "unset a @;", "unset a @to b;", "unset a is @;", `unset a is @"lit";`, "unset a is lit @open;", "unset a is lit @. x;",
		"move @to b;", "move a @b;", "move a @;", "move a @is b;", "move a @, b;", "move a to @;", "move a to b @to c;", "move a to b @c;",
		"remove @;", "remove a @b;", "remove a @, b;", "remove a @to b;",
		"if @{ }", "if a @;", "if a @stop;", "if @let", "if a { @; }", "if a { stop @}", "if a { 1 @+ 1; }", "if a { @{ } }", "if a { @) }", "if a @} else { }", "if a { } else @;", "if a @= 1 { }",
		"while @{ }", "while a @;", "while a { @; }", "while a @stop;", "while a @else { }", "while a { @, }",
		"each @5 in a { }", "each @in a { }", "each a @{ }", "each a @= b { }", "each a @is b { }", "each a in @{ }", "each a in b @;", "each a in b { @in }", "each a@.x in b { }",
		"return @;", "return a @b;", "return a @}", "return @return;",
		"stop @1;", "stop @}", "stop @stop;", "stop @(1);", "win @1;", "win @= 1;", "lose @a;", "lose @, 1;", "look @a;", "look @.x = 1;",
		"award @;", "award a @b;", "award 1 @, 2;", "travel @;", "travel @north;", "travel 1 @2;", "list @;", "list a @, b;", "list a @{",
		"start @5 in 1;", "start @in 1;", "start d @1;", "start d @= 1;", "start d in @;", "start d in 1 @2;", "start d@.x in 1;",
		"halt @;", "halt @5;", "halt @halt;", "halt d @e;", "halt d @in 1;", "halt d@.x;",
		"f(@;", "f(1 @;", "f(1,@);", "f(1) @1;", "f() @= 1;", "f() @+ 1;", "f() @}", "f() @f();", "f()@();", "f().x @;", "f(@stop);",
		"@;", "@)", "@{ }", "@= 1;", "@+ 1;", "@- 1;", "@-a.x = 1;", "@not a;", "@, 1", "@. x", "@else { }", "@is", "@to", "@in", "@has", "@or", "@title(a);", "@any", "@many", "@dir", "@north", "@story", "@func f() { }", `@"a";`, "@|", "@/ 1", "@< 1", "@== 1",
	} {
		checkFailBoth(t, api.ErrToken, src)
		checkFail(t, api.ErrToken, src+" a b c")
	}
	checkFail(t, api.ErrToken, "@}")
	checkFail(t, api.ErrToken, "@} stop;")
}

// TestPromise12_1TheEnd checks lists that end too early, with a TokEnd and without any.
func TestPromise12_1TheEnd(t *testing.T) {
	short := api.Fail{Err: api.ErrShort}
	for _, parse := range []parser{parseOne, clause.Block} {
		check(t, parse, nil, nil, 0, short)
		check(t, parse, []api.Tok{}, nil, 0, short)
		check(t, parse, []api.Tok{{Line: 3, Col: 9}}, nil, 0, api.Fail{Err: api.ErrShort, Line: 3, Col: 9})
		checkFails(t, parse, api.ErrShort, "@")
		checkFails(t, parse, api.ErrShort, "  // nothing@")
	}
	for _, c := range samples() {
		l := tokens(c.src)
		for n := range l {
			if c.want.Kind == 9 && l[n].Text == "else" {
				continue // the if ends here
			}
			cut := l[:n:n]
			check(t, parseOne, cut, nil, 0, short)
			check(t, parseOne, append(cut, api.Tok{Line: 5, Col: 6}), nil, 0, api.Fail{Err: api.ErrShort, Line: 5, Col: 6})
			inBlock := slices.Concat(tokens("{ stop;"), cut)
			check(t, clause.Block, inBlock, nil, 0, short)
			check(t, clause.Block, append(inBlock, api.Tok{Line: 8, Col: 1}), nil, 0, api.Fail{Err: api.ErrShort, Line: 8, Col: 1})
		}
		check(t, clause.Block, slices.Concat(tokens("{ stop;"), l), nil, 0, short)
		checkFails(t, clause.Block, api.ErrShort, "{ stop; "+strings.ReplaceAll(c.src, "\n", " ")+"@")
	}
}

// TestPromise12_1TokensLeftOutAndWrong checks each statement with each token left out, and with every other token in its place and ahead of it.
func TestPromise12_1TokensLeftOutAndWrong(t *testing.T) {
	g := newGrammar()
	for _, c := range samples() {
		checkChanged(t, parseOne, g.read("Stmt"), tokens(c.src))
	}
	for _, src := range []string{"{ }", "{ stop; }", "{ a = 1; f(); if a { } else { } b.x = 2; }", "{ while 1 { look; } }"} {
		checkChanged(t, clause.Block, g.read("Block"), tokens(src))
	}
}

// checkChanged checks l with one token left out, replaced or inserted; r is a reading of nothing.
func checkChanged(t *testing.T, parse parser, r reading, l []api.Tok) {
	t.Helper()
	if len(l) > 24 {
		l = l[:24]
	}
	checkRead := func(parts ...[]api.Tok) {
		t.Helper()
		changed := placed(slices.Concat(parts...))
		checkVerdict(t, parse, changed, r.verdict(changed))
	}
	whole := r
	for i := range l {
		checkRead(l[:i], l[i+1:])
		for _, tok := range alphabet() {
			one := []api.Tok{tok}
			checkRead(l[:i], one, l[i:])
			checkRead(l[:i], one, l[i+1:])
		}
		r = r.next(placed(l)[i])
	}
	if whole.verdict(l).fail.Err == api.ErrToken {
		t.Fatalf("%s cannot be read", shown(l))
	}
}

// TestPromise12_1AllShortLists checks every list of up to five tokens of the alphabet, as far as what follows its first wrong token matters.
func TestPromise12_1AllShortLists(t *testing.T) {
	g := newGrammar()
	letters := alphabet()
	checked := 0
	var explore func(parse parser, r reading, l []api.Tok)
	explore = func(parse parser, r reading, l []api.Tok) {
		for _, tok := range letters {
			longer := placed(append(slices.Clone(l), tok))
			checkVerdict(t, parse, longer, r.verdict(longer))
			checked++
			if next := r.next(tok); next.possible() && len(longer) < 5 {
				explore(parse, next, longer)
			}
		}
	}
	explore(parseOne, g.read("Stmt"), nil)
	explore(clause.Block, g.read("Block"), nil)
	if checked < 300000 {
		t.Fatalf("only %d lists are checked", checked)
	}
}

// TestPromise12_1FromAnyToken checks Parse and Block from each token of a source on.
func TestPromise12_1FromAnyToken(t *testing.T) {
	src := "story \"T\" by \"A\" release 1 max 5 start hall;\nglobal n = -1;\nthing lamp \"Lamp\" in hall { words \"lamp\"; is lit; }\n" +
		"func f(a, b) {\n"
	for _, c := range samples() {
		src += c.src + "\n"
	}
	src += "}\ndaemon d { if n { n = (n + 1); } else { f(1).x.y = (2); } while n < 3 { } }\n"
	l := ended(src)
	g := newGrammar()
	parsed := 0
	for i := range l {
		rest := l[i:]
		checkVerdict(t, parseOne, rest, g.read("Stmt").verdict(rest))
		want := g.read("Block").verdict(rest)
		checkVerdict(t, clause.Block, rest, want)
		parsed += min(want.used, 1)
	}
	if parsed < 10 {
		t.Fatalf("only %d blocks are parsed", parsed)
	}
}

func TestPromise12_1NumberOfTokens(t *testing.T) {
	for src, used := range map[string]int{
		"stop; stop;": 2, "a = 1; b": 4, "a.b.c = -1;;": 9, "f(1, 2); }": 7, "if 1 { } if 2 { }": 4, "if 1 { } else { } else": 7,
		"if 1 { } else if 2 { } }": 9, "while 1 { stop; } stop;": 6, "each a in b { } else": 6, `say "a", title(b); "c"`: 8, "look; say": 2,
	} {
		if _, n, fail := clause.Parse(ended(src)); n != used || fail != (api.Fail{}) {
			t.Fatalf("Parse(%s) uses %d tokens, %+v", src, n, fail)
		}
	}
	for src, used := range map[string]int{"{ } { }": 2, "{ stop; } stop;": 4, "{ if 1 { } } }": 6, "{ } else": 2, "{ } ;": 2} {
		if _, n, fail := clause.Block(ended(src)); n != used || fail != (api.Fail{}) {
			t.Fatalf("Block(%s) uses %d tokens, %+v", src, n, fail)
		}
	}
	for _, src := range []string{"@stop;", "@}", "@a = 1;", "@if", "@1", "@;", "@("} {
		checkFails(t, clause.Block, api.ErrToken, src)
	}
}

// TestPromise12_1Items checks up to 8 items of each kind, and a ninth one.
func TestPromise12_1Items(t *testing.T) {
	for src, e := range map[string]api.Expr{
		"1": number(1), "a": named("a"), `"t"`: text("t"), "title(a)": title(named("a")), "-a": neg(named("a")), "not a": not(named("a")),
		"(a)": named("a"), "here": self(1), "parent(a)": treeOf(1, named("a")), "f()": call("f"), "random(2)": {Kind: 11, Args: []api.Expr{number(2)}},
	} {
		list, want := "say "+src, stmt(1, "", e)
		for n := 1; n <= mostItems; n++ {
			checkStmt(t, list+";", want)
			if n < mostItems {
				list, want.Args = list+", "+src, append(want.Args, e)
			}
		}
		checkFailBoth(t, api.ErrCount, list+", @"+src+";")
		checkFailBoth(t, api.ErrCount, list+", @"+src+", "+src+";")
		checkFailBoth(t, api.ErrCount, list+", @"+src+" + ;")
		checkFailBoth(t, api.ErrCount, list+", @"+src)
		checkFailBoth(t, api.ErrShort, list+",@")
		checkFailBoth(t, api.ErrShort, list+"@")
	}
	full := "say " + strings.Repeat("1, ", mostItems)
	for _, first := range strings.Fields(`1 a "t" title - not ( here player noun second number score parent child next random`) {
		checkFailBoth(t, api.ErrCount, full+"@"+first)
		checkFailBoth(t, api.ErrCount, full+"@"+first+" ; ; ;")
		checkFailBoth(t, api.ErrCount, full+"@"+first+" ( "+deep(40)+" )")
	}
	for _, wrong := range strings.Fields("; , ) } { = + * . == | in is to has or and say stop if else any story north dir") {
		checkFailBoth(t, api.ErrToken, full+"@"+wrong)
		checkFailBoth(t, api.ErrToken, full[:len(full)-3]+"@"+wrong)
	}
	checkFailBoth(t, api.ErrToken, full[:len(full)-2]+" @1;")
}

// TestPromise12_1SizeOfBlocks checks blocks with up to 256 statements, and with one more.
func TestPromise12_1SizeOfBlocks(t *testing.T) {
	stop := stmt(13, "")
	full := "{ " + strings.Repeat("stop; ", mostStmts)
	for _, n := range []int{0, 1, 2, mostStmts - 1, mostStmts} {
		list := slices.Repeat(block(stop), n)
		src := "{ " + strings.Repeat("stop; ", n) + "}"
		checkBlock(t, src, list)
		checkStmt(t, "while 1 "+src, whileOf(number(1), list...))
		checkStmt(t, "if 1 "+src+" else "+src, ifOf(number(1), list, list))
		checkStmt(t, "each a in b "+src, eachOf("a", named("b"), list...))
	}
	within := []string{"", "{ stop; while 1 ", "{ if 1 { } else ", "{ each a in b ", "{ if 1 "}
	for _, ahead := range within {
		for _, c := range samples() {
			checkFails(t, clause.Block, api.ErrCount, ahead+full+"@"+c.src)
		}
		for _, first := range strings.Fields("a 5 ( here parent random say let if while stop halt look list") {
			checkFails(t, clause.Block, api.ErrCount, ahead+full+"@"+first)
			checkFails(t, clause.Block, api.ErrCount, ahead+full+"@"+first+" } }")
		}
		for _, wrong := range strings.Fields(`; - not title "t" { ) = + else is in any story north func`) {
			checkFails(t, clause.Block, api.ErrToken, ahead+full+"@"+wrong)
		}
		checkFails(t, clause.Block, api.ErrShort, ahead+full+"@")
	}
	checkFail(t, api.ErrCount, "while 1 "+full+"@stop; }")
	checkFail(t, api.ErrCount, "if 1 { } else if 2 { } else "+full+"@stop; }")
	mixed := "{ " + strings.Repeat("if 1 { } else if 2 { stop; } ", mostStmts) + "}"
	checkPasses(t, clause.Block, mixed)
	checkPasses(t, clause.Block, "{ while 1 "+full+"} while 1 "+full+"} }")
}

// construct is a way of beginning a block within another one, and of ending it.
type construct struct{ name, open, closed string }

func constructs() []construct {
	return []construct{
		{"if", "if 1 { ", "} "},
		{"else", "if 1 { } else { ", "} "},
		{"else if", "if 1 { } else if 2 { ", "} "},
		{"while", "while 1 { ", "} "},
		{"each", "each a in b { ", "} "},
	}
}

// steps is how much deeper the block is that c leaves open.
func (c construct) steps() int {
	if c.name == "else if" {
		return 2
	}
	return 1
}

// TestPromise12_1NestedBlocks checks blocks that are nested as deep as they can be, and one deeper, before any of them ends.
func TestPromise12_1NestedBlocks(t *testing.T) {
	for _, c := range constructs() {
		steps := c.steps()
		n := mostDepth / steps
		most, more := strings.Repeat(c.open, n), strings.Replace(c.open, "{", "@{", 1)
		checkFail(t, api.ErrShort, most+"@")
		checkFail(t, api.ErrToken, most+"@;")
		checkFail(t, api.ErrDepth, most+more)
		checkFail(t, api.ErrDepth, most+more+strings.Repeat(c.closed, n+1))
		checkFail(t, api.ErrDepth, most+more+c.open+"; ; ;")
		inBlock := "{ " + strings.Repeat(c.open, n-1)
		if steps == 2 {
			inBlock += "while 1 { "
		}
		checkFails(t, clause.Block, api.ErrShort, inBlock+"@")
		checkFails(t, clause.Block, api.ErrToken, inBlock+"@;")
		checkFails(t, clause.Block, api.ErrDepth, inBlock+"while 1 @{ ")
		checkFails(t, clause.Block, api.ErrDepth, inBlock+"if 1 @{ } else { }")
		checkFails(t, clause.Block, api.ErrDepth, inBlock+"each a in b @{ } } }")
		checkFails(t, clause.Block, api.ErrToken, inBlock+"while 1 @stop; {")
		checkFails(t, clause.Block, api.ErrShort, inBlock+"while 1@")
	}
	// The if behind an else begins a block of its own, which is as deep as the one behind the condition.
	most := strings.Repeat("if 1 { } else ", mostDepth)
	checkFail(t, api.ErrShort, most+"if 1@")
	checkFail(t, api.ErrDepth, most+"if 1 @{ } else if 1 { }")
	checkFail(t, api.ErrToken, most+"if 1 @; {")
	checkFail(t, api.ErrShort, most+"{ @")
	checkFail(t, api.ErrDepth, most+"{ while 1 @{")
	checkFails(t, clause.Block, api.ErrDepth, "{ "+most[14:]+"if 1 @{")
	checkFails(t, clause.Block, api.ErrShort, "{ "+most[28:]+"if 1 { @")
	checkFails(t, clause.Block, api.ErrDepth, "{ "+most[28:]+"if 1 { } else { if 1 @{")
}

// TestPromise12_1BlocksBesideOneAnother checks that only blocks within one another count.
func TestPromise12_1BlocksBesideOneAnother(t *testing.T) {
	for _, c := range constructs() {
		steps := c.steps()
		whole := strings.Repeat(c.open, 20/steps) + strings.Repeat(c.closed, 20/steps)
		checkPasses(t, clause.Block, "{ "+strings.Repeat(whole, 20)+"}")
		checkPasses(t, parseOne, "while 1 { "+strings.Repeat(whole, 20)+"}")
		checkPasses(t, parseOne, "if 1 { "+whole+" } else if 1 { "+whole+whole+" } else { "+whole+" }")
	}
}

// nested is src within n blocks of while.
func nested(n int, src string) string {
	return strings.Repeat("while 1 { ", n) + src + strings.Repeat(" }", n)
}

// TestPromise12_1DepthOfStatements checks statements that are as deep as they can be with the blocks around them, and one deeper.
func TestPromise12_1DepthOfStatements(t *testing.T) {
	for _, c := range []struct{ ahead, behind string }{
		{"say ", ";"}, {"say 1, ", ", 2;"}, {"let b = ", ";"}, {"b = ", ";"}, {"b.y = ", ";"}, {"set ", " is lit;"}, {"unset ", " is lit;"}, {"move ", " to b;"}, {"move b to ", ";"}, {"remove ", ";"},
		{"if ", " { }"}, {"if ", " { } else { }"}, {"while ", " { }"}, {"each b in ", " { }"}, {"return ", ";"}, {"award ", ";"}, {"start d in ", ";"}, {"travel ", ";"}, {"list ", ";"}, {"", ".y = 1;"},
	} {
		most, more := c.ahead+deep(mostDepth-1)+c.behind, "@"+c.ahead+deep(mostDepth)+c.behind
		checkPasses(t, parseOne, most)
		checkPasses(t, clause.Block, "{ stop; "+most+" stop; }")
		if c.ahead != "" {
			checkFailBoth(t, api.ErrDepth, more)
			checkFailBoth(t, api.ErrDepth, more+" ; ;")
		}
		for n := 1; n < mostDepth-1; n++ {
			less := c.ahead + deep(mostDepth-1-n) + c.behind
			checkPasses(t, parseOne, nested(n, less))
			checkPasses(t, clause.Block, "{ "+nested(n, less)+" }")
			one := c.ahead + deep(mostDepth-n) + c.behind
			checkFails(t, clause.Block, api.ErrDepth, "{ stop; "+nested(n, "@"+one)+" }")
			checkFails(t, clause.Block, api.ErrDepth, "{ stop; "+nested(n, "stop; @"+one)+" ; }")
		}
	}
	checkPasses(t, parseOne, "f("+deep(mostDepth-2)+");")
	checkFailBoth(t, api.ErrDepth, "@f("+deep(mostDepth-1)+");")
	checkPasses(t, parseOne, "say title("+deep(mostDepth-2)+");")
	checkFailBoth(t, api.ErrDepth, "@say title("+deep(mostDepth-1)+");")
	checkFailBoth(t, api.ErrDepth, "@say 1, title("+deep(mostDepth)+"), 2;")
	checkPasses(t, parseOne, "say title("+strings.Repeat("(", 64)+"a"+strings.Repeat(")", 65)+";")
}

// TestPromise12_1EnclosingBlocks checks which statement is too deep: the outermost block does not count for its statements, be it that of Block or one of the statement of Parse.
func TestPromise12_1EnclosingBlocks(t *testing.T) {
	for n := 1; n < mostDepth-1; n++ {
		one, two := "say "+deep(mostDepth-n)+";", "say "+deep(mostDepth+1-n)+";"
		checkFail(t, api.ErrDepth, "@"+nested(n, one))
		checkFail(t, api.ErrDepth, nested(n, "@"+two))
		checkFail(t, api.ErrShort, strings.TrimSuffix(nested(n, one), "}")+"@")
	}
	checkPasses(t, parseOne, nested(mostDepth-1, "stop;"))
	checkPasses(t, parseOne, nested(mostDepth-1, ""))
	checkFail(t, api.ErrDepth, "@"+nested(mostDepth-1, "remove a;"))
	checkFail(t, api.ErrDepth, "@"+nested(mostDepth, ""))
	checkFail(t, api.ErrDepth, "@"+nested(mostDepth, "stop;"))
	checkFail(t, api.ErrDepth, nested(mostDepth, "@remove a;"))
	checkPasses(t, clause.Block, "{ "+nested(mostDepth-1, "stop;")+" }")
	checkPasses(t, clause.Block, "{ "+nested(mostDepth-1, "")+" }")
	checkPasses(t, clause.Block, "{ "+nested(mostDepth-2, "remove a;")+" }")
	checkFails(t, clause.Block, api.ErrDepth, "{ "+nested(mostDepth-1, "@remove a;")+" }")
	checkFails(t, clause.Block, api.ErrDepth, "{ "+nested(mostDepth-1, "stop; @remove a;")+" }")
}

// TestPromise12_1DepthOfElse checks that what follows an else counts as a block, and the inner statements first.
func TestPromise12_1DepthOfElse(t *testing.T) {
	chain := func(n int, last string) string { return strings.Repeat("if 1 { } else ", n) + last }
	for n := 1; n < mostDepth-1; n++ {
		checkPasses(t, parseOne, chain(n, "if "+deep(mostDepth-1-n)+" { }"))
		checkFail(t, api.ErrDepth, "@"+chain(n, "if "+deep(mostDepth-n)+" { }"))
		checkFail(t, api.ErrDepth, chain(n, "@if "+deep(mostDepth+1-n)+" { }"))
		checkPasses(t, clause.Block, "{ "+chain(n, "if "+deep(mostDepth-1-n)+" { }")+" }")
		checkFails(t, clause.Block, api.ErrDepth, "{ "+chain(n, "@if "+deep(mostDepth-n)+" { }")+" }")
		checkPasses(t, clause.Block, "{ "+chain(n, "{ say "+deep(mostDepth-1-n)+"; }")+" }")
		checkFails(t, clause.Block, api.ErrDepth, "{ "+chain(n, "{ @say "+deep(mostDepth-n)+"; }")+" }")
	}
	inner, outer := deep(mostDepth-1), deep(mostDepth)
	checkFails(t, clause.Block, api.ErrDepth, "{ if "+outer+" { @say "+inner+"; } }")
	checkFails(t, clause.Block, api.ErrDepth, "{ @if "+outer+" { say 1; } }")
	checkFails(t, clause.Block, api.ErrDepth, "{ if 1 { @say "+inner+"; } else { say "+inner+"; } }")
	checkFails(t, clause.Block, api.ErrDepth, "{ if 1 { say 1; } else { @say "+inner+"; } }")
	checkFails(t, clause.Block, api.ErrDepth, "{ while "+outer+" { while "+outer+" { @while "+inner+" { } } } }")
	checkFails(t, clause.Block, api.ErrToken, "{ if "+outer+" { say 1; } else @; }")
	checkFails(t, clause.Block, api.ErrShort, "{ if "+outer+" { say 1; } else { say 1;@")
	checkFails(t, clause.Block, api.ErrDepth, "{ @if "+outer+" { say 1; } ; }")
	checkFails(t, clause.Block, api.ErrToken, "{ say "+outer+" @}")
	checkFails(t, clause.Block, api.ErrDepth, "{ if 1 { } else @if "+outer+" { } else { } }")
}

// brokenExpressions is expressions with an error at the token behind the mark @, whatever stands behind them.
func brokenExpressions() map[api.Errno][]string {
	open := strings.Repeat("(", 64)
	ones := "f(1, 1, 1, 1, 1, 1, 1, 1"
	most := deep(mostDepth)
	return map[api.Errno][]string{
		api.ErrToken: {"@", "a + @", "a * @* b", "(a @b)", "(a @", "a has @5", "a == @not b", "parent @a", "parent @", "a == b @== c", "a == b @has lit", "random(@)", "a @b", "a.@(b)", "1@(b)",
			"f(a, @)", "f(a @b)", "(a @;)", "@stop", "@any", "not @;", "- @not a", open + "@;"},
		api.ErrCount: {ones + "@, 1)", "g(" + ones + "@, 1))", "a + " + ones + "@, ;", ones + "@,"},
		api.ErrDepth: {open + "@(a", open + "@-a", open + "@not a", open + "f@(a", open + "random@(a", open[1:] + "-@(a", open + "parent@()",
			most + "@.x", most + "@.x + ;", most + " @== b", "b + a - " + most + " @* b", "b @+ " + most, most + " @has lit", "@-" + most, "@not " + most, "@f(" + most + ")", "1 + @random(" + most + ")", "1 + f(@child(" + most + ")"},
	}
}

// TestPromise12_1ErrorsOfExpressions checks the errors of layer 11 and their places, wherever a statement has an expression.
func TestPromise12_1ErrorsOfExpressions(t *testing.T) {
	for _, c := range []struct{ ahead, behind string }{
		{"say ", ";"}, {"say 1, ", ";"}, {`say "t", 1, 1, 1, 1, 1, 1, `, ";"}, {"say title(", ";"}, {"let b = ", ";"}, {"b = ", ";"}, {"b.x = ", ";"}, {"f(1).x = ", ";"}, {"set ", " is lit;"}, {"unset ", " is lit;"}, {"move ", " to b;"}, {"move a to ", ";"}, {"remove ", ";"},
		{"if ", "{ }"}, {"if 1 { } else if ", "{ }"}, {"while ", "{ }"}, {"each b in ", "{ }"}, {"return ", ";"}, {"award ", ";"}, {"start d in ", ";"}, {"travel ", ";"}, {"list ", ";"}, {"while 1 { list ", "; }"}, {"if 1 { } else { b = ", "; }"},
	} {
		for err, list := range brokenExpressions() {
			for _, src := range list {
				checkFailBoth(t, err, c.ahead+src+c.behind)
			}
		}
		for _, src := range []string{"", "a +", "(a", "not", "-", "f(", "f(1,", "a has", "a.", "parent", "random("} {
			checkFailBoth(t, api.ErrShort, c.ahead+src+"@")
		}
	}
}

// TestPromise12_1ErrorsOfTights checks the errors of layer 11 in what a statement begins with.
func TestPromise12_1ErrorsOfTights(t *testing.T) {
	open := strings.Repeat("(", 64)
	closed := strings.Repeat(")", 64)
	ones := "f(1, 1, 1, 1, 1, 1, 1, 1"
	most := deep(mostDepth)
	for _, behind := range []string{"", ".x = 1;", ";", " = 1;", " + 1;", ") = ;", ".y.z"} {
		for err, list := range map[api.Errno][]string{
			api.ErrToken: {"(a + @)", "(a @b)", "(@)", "(a @,)", "f(a, @)", "f(a @b)", "f(@,)", "parent @a", "parent(@)", "random(a @b)", "next @5", "child @.x", "random @+", "parent @= 1", "a.@5", "a.@(b)", "a.x.@in", "here.@.x", "(a).@)",
				"f(a == b @== c)", "(@stop)", "f(@title(a))", "parent @has lit"},
			api.ErrCount: {ones + "@, 1)", "(" + ones + "@, 1))", "f(" + ones + "@, 1))"},
			api.ErrDepth: {open + "@(a)" + closed, open + "@(a", "f" + open + "@(a)" + closed, "random" + open + "@-a" + closed, open + "f@(a)" + closed, open + "@not a",
				most + "@.x", most + "@.x.x", "(" + most + " @+ 1)", "f(" + most + " @has lit)", "(@-" + most + ")", "(1 + @f(" + most + "))", "@f(" + most + ")", "@f(1, " + most + ")", "@parent(" + most + ")", "(" + most + ")@.x", "f(" + most[:len(most)-2] + ")@.x"},
		} {
			for _, src := range list {
				checkFailBoth(t, err, src+behind)
			}
		}
	}
	for _, src := range []string{"(", "(a", "(a +", "((a)", "f", "f(", "f(1", "f(1,", "parent", "parent(", "parent(a", "random(a +", "a.", "a.x.", "(a).", "f().", "here", "5", "a", "a.x", "f()", "(a)", "a.x =", "a =", "f().x ="} {
		checkFailBoth(t, api.ErrShort, src+"@")
	}
	checkPasses(t, parseOne, open+"a"+closed+".x = 1;")
	checkPasses(t, parseOne, "f("+open[1:]+"a"+closed[1:]+");")
	checkFailBoth(t, api.ErrToken, open+"a"+closed+" @= 1;")
	checkFailBoth(t, api.ErrToken, open+"a"+closed+"@;")
}

// TestPromise12_1TightOfEachKind checks what may follow a tight of each kind.
func TestPromise12_1TightOfEachKind(t *testing.T) {
	a, one := named("a"), number(1)
	others := strings.Fields(`+ - * / % == != < <= > >= in has or and not ( ) { } , | 5 b "t" is to stop let if else here title north any`)
	refused := func(src string, signs ...string) {
		t.Helper()
		for _, next := range slices.Concat(others, signs) {
			if next == "(" && src == "a" {
				continue
			}
			checkFailBoth(t, api.ErrToken, src+" @"+next+" 1;")
			checkFailBoth(t, api.ErrToken, src+" @"+next)
		}
		checkFailBoth(t, api.ErrShort, src+"@")
	}
	refused("a", ";")
	checkStmt(t, "a = 1;", stmt(3, "a", one))
	for src, e := range map[string]api.Expr{"f()": call("f"), "f(a, 1)": call("f", a, one), "f((a))": call("f", a), "f(f(a))": call("f", call("f", a))} {
		refused(src, "=")
		checkStmt(t, src+";", stmt(19, "", e))
	}
	values := map[string]api.Expr{
		"a": a, "f()": call("f"), "f(a)": call("f", a), "5": number(5), "(a)": a, "((a))": a, "(a.x)": prop(a, "x"), "(f())": call("f"), "(a + 1)": bin(a, 10, one), "(-a)": neg(a), "(not a)": not(a), "(a or (1))": bin(a, 1, one),
		"here": self(1), "player": self(2), "noun": self(3), "second": self(4), "number": self(5), "score": self(6),
		"parent(a)": treeOf(1, a), "child((a))": treeOf(2, a), "next(a.x)": treeOf(3, prop(a, "x")), "random(1)": {Kind: 11, Args: []api.Expr{one}},
	}
	for src, e := range values {
		if e.Kind != 3 && e.Kind != 9 || strings.HasPrefix(src, "(") {
			refused(src, ";", "=")
		}
		refused(src+".x", ";")
		refused(src+".x.y", ";")
		checkStmt(t, src+".x = 1;", stmt(4, "x", e, one))
		checkStmt(t, src+" . x . y = a + 1 ;", stmt(4, "y", prop(e, "x"), bin(a, 10, one)))
		refused("("+src+".x)", ";", "=")
	}
}

// TestPromise12_1OperatorsDoNotBelongToATight checks that an operator behind a tight fails, not what follows the operator.
func TestPromise12_1OperatorsDoNotBelongToATight(t *testing.T) {
	for _, operator := range strings.Fields("or and == != < <= > >= in has + - * / %") {
		for _, src := range []string{"a", "5", "f()", "(a)", "here", "parent(a)", "a.x", "f().x", "(a + b).x.y"} {
			for _, behind := range []string{"", " ;", " 1;", " ,", " 1 2", " = 1;", " " + strings.Repeat("(", 70), " " + deep(40)} {
				checkFailBoth(t, api.ErrToken, src+" @"+operator+behind)
			}
		}
		checkFailBoth(t, api.ErrDepth, deep(mostDepth)+"@.x "+operator+" 1")
	}
}

// TestPromise12_1WhichErrorIsTold checks that of several errors the first one is told, of what is complete first.
func TestPromise12_1WhichErrorIsTold(t *testing.T) {
	over, most := deep(mostDepth), deep(mostDepth-1)
	full := "{ " + strings.Repeat("stop; ", mostStmts)
	items := "say " + strings.Repeat("1, ", mostItems)
	blocks := strings.Repeat("while 1 { ", mostDepth)
	checkFailBoth(t, api.ErrDepth, "@say "+over+"; let")
	checkFailBoth(t, api.ErrToken, "say "+over+" @let;")
	checkFailBoth(t, api.ErrDepth, "say "+over+"@.x let;")
	checkFailBoth(t, api.ErrToken, "say "+over+", @;")
	checkFailBoth(t, api.ErrCount, items+"@"+over+".x;")
	checkFailBoth(t, api.ErrCount, items+"@-"+over+";")
	checkFailBoth(t, api.ErrDepth, "say "+over+"@.x, "+items[4:]+" 1;")
	checkFailBoth(t, api.ErrCount, "say "+over+", "+items[7:]+"@1;")
	checkFails(t, clause.Block, api.ErrCount, full+"@say "+over+";")
	checkFails(t, clause.Block, api.ErrCount, full+"@f("+over+");")
	checkFails(t, clause.Block, api.ErrCount, full+"@while 1 "+full+"stop;")
	checkFails(t, clause.Block, api.ErrDepth, "{ @say "+over+"; "+full[2:]+"}")
	checkFails(t, clause.Block, api.ErrCount, "{ while "+over+" "+full+"@stop; } }")
	checkFails(t, clause.Block, api.ErrDepth, "{ @while "+over+" "+full+"} ; }")
	checkFail(t, api.ErrDepth, blocks+"while 1 @{ ; "+full)
	checkFail(t, api.ErrToken, blocks+"while @; {")
	checkFail(t, api.ErrDepth, blocks+"while "+over+" @{ }")
	checkFail(t, api.ErrDepth, blocks+"while "+over+"@.x { }")
	checkFail(t, api.ErrDepth, blocks+"stop; @say 1; say 2; }")
	checkFail(t, api.ErrToken, blocks+"stop; say @; }")
	checkFail(t, api.ErrToken, "while "+over+" { stop @}")
	checkFail(t, api.ErrDepth, "@while "+over+" { stop; } ;")
	checkFailBoth(t, api.ErrDepth, "if "+over+" { while 1 { @say "+most+"; } ;")
}
