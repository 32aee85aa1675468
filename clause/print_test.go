package clause_test

import (
	"slices"
	"strconv"
	"strings"
	"testing"

	"clew/api"
	"clew/clause"
	"clew/lex"
	"clew/phrase"
	"clew/tree"
)

// mostTabs is the greatest depth that the chapter names.
const mostTabs = 64

// tabs is as many tabs as the chapter tells for a depth.
func tabs(depth int) string {
	n := 0
	for n < depth && n < mostTabs {
		n++
	}
	return strings.Repeat("\t", n)
}

// definedLines is Print by its definition.
func definedLines(s api.Stmt, depth int) string {
	return tabs(depth) + definedText(s, max(depth, 0)) + "\n"
}

// definedBlock is PrintBlock by its definition.
func definedBlock(l []api.Stmt, depth int) string {
	lines := "{\n"
	for _, s := range l {
		lines += definedLines(s, max(depth, 0)+1)
	}
	return lines + tabs(depth) + "}"
}

// definedText is the text of a statement without the tabs in front and the line feed behind it.
func definedText(s api.Stmt, depth int) string {
	var args []string
	for _, e := range s.Args {
		args = append(args, definedItem(e))
	}
	switch s.Kind {
	case 1:
		return "say " + strings.Join(args, ", ") + ";"
	case 2:
		return "let " + s.Name + " = " + args[0] + ";"
	case 3:
		return s.Name + " = " + args[0] + ";"
	case 4:
		return phrase.Print(prop(s.Args[0], s.Name)) + " = " + args[1] + ";"
	case 5, 6:
		return []string{"set ", "unset "}[s.Kind-5] + args[0] + " is " + s.Name + ";"
	case 7:
		return "move " + args[0] + " to " + args[1] + ";"
	case 9:
		return "if " + args[0] + " " + definedBlock(s.Body, depth) + definedElse(s.Else, depth)
	case 10:
		return "while " + args[0] + " " + definedBlock(s.Body, depth)
	case 11:
		return "each " + s.Name + " in " + args[0] + " " + definedBlock(s.Body, depth)
	case 17:
		return "start " + s.Name + " in " + args[0] + ";"
	case 18:
		return "halt " + s.Name + ";"
	case 19:
		return args[0] + ";"
	}
	words := map[int]string{8: "remove", 12: "return", 13: "stop", 14: "win", 15: "lose", 16: "award", 20: "travel", 21: "look", 22: "list"}
	return strings.Join(append([]string{words[s.Kind]}, args...), " ") + ";"
}

func definedElse(l []api.Stmt, depth int) string {
	switch {
	case len(l) == 0:
		return ""
	case len(l) == 1 && l[0].Kind == 9:
		return " else " + definedText(l[0], depth)
	}
	return " else " + definedBlock(l, depth)
}

func definedItem(e api.Expr) string {
	switch e.Kind {
	case 2:
		return lex.Quote(e.Name)
	case 13:
		return "title(" + phrase.Print(e.Args[0]) + ")"
	}
	return phrase.Print(e)
}

// checkPrint checks the text of s at depth 0, and that its tokens are parsed as s.
func checkPrint(t *testing.T, s api.Stmt, want string) {
	t.Helper()
	if got := clause.Print(s, 0); got != want {
		t.Fatalf("Print(%+v) = %q, want %q", s, got, want)
	}
	l := tokens(want)
	check(t, parseOne, l, block(s), len(l), api.Fail{})
}

// checkDefinedPrint checks Print of s against its definition, at several depths.
func checkDefinedPrint(t *testing.T, s api.Stmt) {
	t.Helper()
	checkPrint(t, s, definedLines(s, 0))
	for _, depth := range []int{1, 5} {
		if got, want := clause.Print(s, depth), definedLines(s, depth); got != want {
			t.Fatalf("Print(%+v, %d) = %q, want %q", s, depth, got, want)
		}
	}
}

// checkDefinedBlock checks PrintBlock of l against its definition, and that its tokens are parsed as l.
func checkDefinedBlock(t *testing.T, l []api.Stmt) {
	t.Helper()
	for _, depth := range []int{0, 1, 3} {
		got := clause.PrintBlock(l, depth)
		if want := definedBlock(l, depth); got != want {
			t.Fatalf("PrintBlock(%+v, %d) = %q, want %q", l, depth, got, want)
		}
		all := tokens(got)
		check(t, clause.Block, all, l, len(all), api.Fail{})
	}
}

// allSamples is the statements of the samples.
func allSamples() []api.Stmt {
	var list []api.Stmt
	for _, c := range samples() {
		list = append(list, c.want)
	}
	return list
}

// indented is src with tabs in front of each of its lines.
func indented(src string, n int) string {
	front := strings.Repeat("\t", n)
	return front + strings.ReplaceAll(src, "\n", "\n"+front)
}

func TestPromise12_2EachKindAtEachDepth(t *testing.T) {
	for _, c := range samples() {
		checkPrint(t, c.want, c.src+"\n")
		checkDefinedPrint(t, c.want)
		for _, d := range []struct{ depth, tabs int }{{-1 << 62, 0}, {-2, 0}, {-1, 0}, {0, 0}, {1, 1}, {2, 2}, {17, 17}, {62, 62}, {63, 63}, {64, 64}, {65, 64}, {66, 64}, {1 << 62, 64}} {
			want := indented(c.src, d.tabs) + "\n"
			if d.tabs > mostTabs-3 {
				want = shortened(want)
			}
			if got := clause.Print(c.want, d.depth); got != want {
				t.Fatalf("Print(%+v, %d) = %q, want %q", c.want, d.depth, got, want)
			}
		}
	}
}

// shortened is lines with at most 64 tabs in front of each.
func shortened(lines string) string {
	for strings.Contains(lines, strings.Repeat("\t", mostTabs+1)) {
		lines = strings.ReplaceAll(lines, strings.Repeat("\t", mostTabs+1), strings.Repeat("\t", mostTabs))
	}
	return lines
}

func TestPromise12_2Blocks(t *testing.T) {
	stop, win := stmt(13, ""), stmt(14, "")
	tab := strings.Repeat("\t", mostTabs)
	loop := whileOf(number(1), whileOf(named("a"), stop), win)
	for _, c := range []struct {
		l     []api.Stmt
		depth int
		want  string
	}{
		{nil, 0, "{\n}"}, {nil, 1, "{\n\t}"}, {nil, 3, "{\n\t\t\t}"}, {nil, -1, "{\n}"}, {nil, -1 << 62, "{\n}"}, {[]api.Stmt{}, 64, "{\n" + tab + "}"}, {nil, 65, "{\n" + tab + "}"}, {nil, 1 << 62, "{\n" + tab + "}"},
		{block(stop), 0, "{\n\tstop;\n}"}, {block(stop), -1, "{\n\tstop;\n}"}, {block(stop), -2, "{\n\tstop;\n}"}, {block(stop), 1, "{\n\t\tstop;\n\t}"},
		{block(stop, win), 2, "{\n\t\t\tstop;\n\t\t\twin;\n\t\t}"},
		{block(stop), 62, "{\n" + tab[1:] + "stop;\n" + tab[2:] + "}"}, {block(stop), 63, "{\n" + tab + "stop;\n" + tab[1:] + "}"}, {block(stop), 64, "{\n" + tab + "stop;\n" + tab + "}"}, {block(stop), 65, "{\n" + tab + "stop;\n" + tab + "}"}, {block(stop), 1<<63 - 1, "{\n" + tab + "stop;\n" + tab + "}"},
		{block(loop), 0, "{\n\twhile 1 {\n\t\twhile a {\n\t\t\tstop;\n\t\t}\n\t\twin;\n\t}\n}"},
		{block(loop, stop), -5, "{\n\twhile 1 {\n\t\twhile a {\n\t\t\tstop;\n\t\t}\n\t\twin;\n\t}\n\tstop;\n}"},
		{block(loop), 62, "{\n" + tab[1:] + "while 1 {\n" + tab + "while a {\n" + tab + "stop;\n" + tab + "}\n" + tab + "win;\n" + tab[1:] + "}\n" + tab[2:] + "}"},
	} {
		if got := clause.PrintBlock(c.l, c.depth); got != c.want {
			t.Fatalf("PrintBlock(%+v, %d) = %q, want %q", c.l, c.depth, got, c.want)
		}
		l := tokens(c.want)
		check(t, clause.Block, l, c.l, len(l), api.Fail{})
	}
	checkDefinedBlock(t, allSamples())
	checkDefinedBlock(t, slices.Repeat(block(stop), mostStmts))
}

func TestPromise12_2Else(t *testing.T) {
	a, one, stop := named("a"), number(1), stmt(13, "")
	inner := ifOf(a, nil, nil)
	checkPrint(t, ifOf(one, nil, nil), "if 1 {\n}\n")
	checkPrint(t, ifOf(one, block(stop), []api.Stmt{}), "if 1 {\n\tstop;\n}\n")
	checkPrint(t, ifOf(one, nil, block(stop)), "if 1 {\n} else {\n\tstop;\n}\n")
	checkPrint(t, ifOf(one, nil, block(inner)), "if 1 {\n} else if a {\n}\n")
	checkPrint(t, ifOf(one, block(stop), block(ifOf(a, block(stop), block(stop)))), "if 1 {\n\tstop;\n} else if a {\n\tstop;\n} else {\n\tstop;\n}\n")
	checkPrint(t, ifOf(one, nil, block(ifOf(a, nil, block(ifOf(one, block(stop), nil))))), "if 1 {\n} else if a {\n} else if 1 {\n\tstop;\n}\n")
	checkPrint(t, ifOf(one, nil, block(inner, stop)), "if 1 {\n} else {\n\tif a {\n\t}\n\tstop;\n}\n")
	checkPrint(t, ifOf(one, nil, block(stop, inner)), "if 1 {\n} else {\n\tstop;\n\tif a {\n\t}\n}\n")
	checkPrint(t, ifOf(one, nil, block(inner, inner)), "if 1 {\n} else {\n\tif a {\n\t}\n\tif a {\n\t}\n}\n")
	checkPrint(t, ifOf(one, nil, block(whileOf(a))), "if 1 {\n} else {\n\twhile a {\n\t}\n}\n")
	checkPrint(t, ifOf(one, nil, block(eachOf("b", a, stop))), "if 1 {\n} else {\n\teach b in a {\n\t\tstop;\n\t}\n}\n")
	checkPrint(t, ifOf(one, block(inner), block(inner)), "if 1 {\n\tif a {\n\t}\n} else if a {\n}\n")
	for _, s := range allSamples() {
		checkDefinedPrint(t, ifOf(one, block(s), block(s)))
		checkDefinedPrint(t, ifOf(one, nil, block(ifOf(a, block(s), block(s)))))
		checkDefinedPrint(t, whileOf(a, ifOf(one, nil, block(s, s))))
	}
	if got, want := clause.Print(ifOf(one, block(stop), block(inner)), 2), "\t\tif 1 {\n\t\t\tstop;\n\t\t} else if a {\n\t\t}\n"; got != want {
		t.Fatalf("Print = %q, want %q", got, want)
	}
}

func TestPromise12_2LeftHandSides(t *testing.T) {
	a, b := named("a"), named("b")
	for want, e := range map[string]api.Expr{
		"a.x": a, "a.y.x": prop(a, "y"), "f().x": call("f"), "f(a, b).x": call("f", a, b), "5.x": number(5), "here.x": self(1), "parent(a).x": treeOf(1, a), "next(a + b).x": treeOf(3, bin(a, 10, b)), "random(a).x": {Kind: 11, Args: []api.Expr{a}},
		"(a + b).x": bin(a, 10, b), "(a or b).x": bin(a, 1, b), "(a == b).x": bin(a, 3, b), "(a in b).x": bin(a, 9, b), "(a * b).x": bin(a, 12, b), "(-a).x": neg(a), "(not a).x": not(a),
		"(a has lit).x": {Kind: 7, Name: "lit", Args: []api.Expr{a}}, "(-a).y.x": prop(neg(a), "y"), "((a + b) * a).x": bin(bin(a, 10, b), 12, a), "(--a).x": neg(neg(a)),
	} {
		s := stmt(4, "x", e, number(1))
		checkPrint(t, s, want+" = 1;\n")
		checkPrint(t, whileOf(b, s, s), "while b {\n\t"+want+" = 1;\n\t"+want+" = 1;\n}\n")
	}
}

func TestPromise12_2Items(t *testing.T) {
	a, one := named("a"), number(1)
	checkPrint(t, stmt(1, "", text("")), "say \"\";\n")
	checkPrint(t, stmt(1, "", text("say \"it\"\nand\\or ; {")), "say \"say \\\"it\\\"\\nand\\\\or ; {\";\n")
	checkPrint(t, stmt(1, "", title(bin(a, 10, one)), text("b"), title(a)), "say title(a + 1), \"b\", title(a);\n")
	checkPrint(t, stmt(1, "", title(not(a)), title(call("f", a, one))), "say title(not a), title(f(a, 1));\n")
	checkPrint(t, stmt(1, "", text(strings.Repeat("x", 1024))), "say \""+strings.Repeat("x", 1024)+"\";\n")
	checkPrint(t, stmt(1, "", slices.Repeat([]api.Expr{one}, mostItems)...), "say 1, 1, 1, 1, 1, 1, 1, 1;\n")
	checkPrint(t, stmt(19, "", call("f", slices.Repeat([]api.Expr{a}, 8)...)), "f(a, a, a, a, a, a, a, a);\n")
}

// dice is random numbers, always the same ones.
type dice struct{ state uint64 }

func (d *dice) below(n int) int {
	d.state = d.state*6364136223846793005 + 1442695040888963407
	return int(d.state >> 33 % uint64(n))
}

func (d *dice) name() string {
	return []string{"a", "b", "lamp", "x_1", "says", "ifs"}[d.below(6)]
}

// expr is an expression of at most that depth.
func (d *dice) expr(depth int) api.Expr {
	if depth < 2 || d.below(4) == 0 {
		return []api.Expr{number(d.below(32768)), named(d.name()), self(1 + d.below(6)), call(d.name())}[d.below(4)]
	}
	below := func() api.Expr { return d.expr(depth - 1) }
	switch d.below(8) {
	case 0:
		return neg(below())
	case 1:
		return not(below())
	case 2:
		return prop(below(), d.name())
	case 3:
		return treeOf(1+d.below(3), below())
	case 4:
		return call(d.name(), below(), below())
	case 5:
		return api.Expr{Kind: 7, Name: d.name(), Args: []api.Expr{below()}}
	}
	return bin(below(), 1+d.below(14), below())
}

// item is something that can be said.
func (d *dice) item(depth int) api.Expr {
	switch d.below(4) {
	case 0:
		return text([]string{"", "a\nb", `"\`, "{ }", "// x"}[d.below(5)])
	case 1:
		return title(d.expr(max(depth-1, 1)))
	}
	return d.expr(depth)
}

// stmt is a statement for which DepthBlock is at most depth, which is greater than 2.
func (d *dice) stmt(depth int) api.Stmt {
	expr := func() api.Expr { return d.expr(min(depth-1, 5)) }
	list := func() []api.Stmt { return d.block(depth - 1) }
	kinds := 22
	if depth < 4 {
		list = func() []api.Stmt { return nil }
	}
	switch kind := 1 + d.below(kinds); kind {
	case 1:
		s := stmt(1, "")
		for range 1 + d.below(mostItems) {
			s.Args = append(s.Args, d.item(min(depth-1, 3)))
		}
		return s
	case 4:
		return stmt(4, d.name(), d.expr(min(depth-1, 4)), expr())
	case 7:
		return stmt(7, "", expr(), expr())
	case 9:
		return ifOf(expr(), list(), list())
	case 10:
		return whileOf(expr(), list()...)
	case 11:
		return eachOf(d.name(), expr(), list()...)
	case 13, 14, 15, 21:
		return stmt(kind, "")
	case 18:
		return stmt(18, d.name())
	case 19:
		return stmt(19, "", call(d.name(), d.expr(1), d.expr(depth-2)))
	case 2, 3, 5, 6, 17:
		return stmt(kind, d.name(), expr())
	default:
		return stmt(kind, "", expr())
	}
}

// block is a list of statements for which DepthBlock is at most depth.
func (d *dice) block(depth int) []api.Stmt {
	var list []api.Stmt
	for range d.below(4) {
		list = append(list, d.stmt(depth))
	}
	return list
}

// TestPromise12_2WhatIsPrintedIsParsed checks statements of all kinds and many depths.
func TestPromise12_2WhatIsPrintedIsParsed(t *testing.T) {
	d := &dice{7}
	depths, kinds := map[int]bool{}, map[int]bool{}
	for i := range 4000 {
		s := d.stmt(3 + i%12)
		if !tree.RightBlock(block(s)) {
			t.Fatalf("%+v is not Right", s)
		}
		checkDefinedPrint(t, s)
		depths[tree.DepthBlock(block(s))], kinds[s.Kind] = true, true
		checkDefinedBlock(t, d.block(3+i%10))
	}
	if len(depths) < 12 || len(kinds) != 22 {
		t.Fatalf("only the depths %v and the kinds %v are checked", depths, kinds)
	}
}

// TestPromise12_2DeepStatements checks statements that are as deep as Right ones can be, around each other in each way.
func TestPromise12_2DeepStatements(t *testing.T) {
	stop := stmt(13, "")
	layers := []func(s api.Stmt) api.Stmt{
		func(s api.Stmt) api.Stmt { return ifOf(number(1), block(s), nil) },
		func(s api.Stmt) api.Stmt { return ifOf(number(1), nil, block(s)) },
		func(s api.Stmt) api.Stmt { return ifOf(number(1), nil, block(s, stop)) },
		func(s api.Stmt) api.Stmt { return ifOf(number(1), block(stop), block(s)) },
		func(s api.Stmt) api.Stmt { return whileOf(named("a"), stop, s) },
		func(s api.Stmt) api.Stmt { return eachOf("b", named("a"), s, stop) },
	}
	for i, layer := range layers {
		for _, inner := range []api.Stmt{stop, whileOf(number(1)), stmt(3, "a", deepExpr(20)), ifOf(number(1), nil, nil), stmt(4, "x", deepExpr(5), number(1)), stmt(1, "", title(number(1)))} {
			s := inner
			for tree.RightBlock(block(layer(s))) {
				s = layer(s)
			}
			if n := tree.DepthBlock(block(s)); n != mostDepth {
				t.Fatalf("the depth of layer %d is %d", i, n)
			}
			checkDefinedPrint(t, s)
			checkDefinedBlock(t, block(s, s))
		}
		s := layer(layer(layer(stmt(3, "a", deepExpr(mostDepth-4)))))
		checkDefinedPrint(t, s)
	}
	for depth := 1; depth < mostDepth; depth++ {
		checkDefinedPrint(t, stmt(3, "a", deepExpr(depth)))
		checkDefinedPrint(t, stmt(4, "x", deepExpr(depth), deepExpr(mostDepth-depth)))
	}
}

// TestPromise12_2TooDeepStatements checks that statements that are printed but one too deep are not parsed.
func TestPromise12_2TooDeepStatements(t *testing.T) {
	s := stmt(13, "")
	for tree.DepthBlock(block(s)) <= mostDepth {
		s = whileOf(number(1), s)
	}
	printed := clause.Print(s, 0)
	if printed != definedLines(s, 0) {
		t.Fatalf("Print = %q", printed)
	}
	if _, used, fail := clause.Parse(tokens(printed)); used != 0 || fail.Err != api.ErrDepth {
		t.Fatalf("Parse = %d, %+v", used, fail)
	}
	if l, used, fail := clause.Block(tokens(clause.PrintBlock(block(s), 0))); l != nil || used != 0 || fail.Err != api.ErrDepth {
		t.Fatalf("Block = %d, %+v", used, fail)
	}
}

// TestPromise12_3TextOfAList checks that the text of a list is the texts of its statements one behind the other.
func TestPromise12_3TextOfAList(t *testing.T) {
	d := &dice{11}
	lists := [][]api.Stmt{nil, allSamples(), slices.Repeat(allSamples(), 5)}
	for i := range 500 {
		lists = append(lists, d.block(3+i%9))
	}
	for _, l := range lists {
		for _, depth := range []int{-3, -1, 0, 1, 2, 62, 63, 64, 65, 1000} {
			texts := ""
			for _, s := range l {
				texts += clause.Print(s, max(depth, 0)+1)
			}
			want := "{\n" + texts + tabs(depth) + "}"
			if got := clause.PrintBlock(l, depth); got != want {
				t.Fatalf("PrintBlock(%+v, %d) = %q, want %q", l, depth, got, want)
			}
			for _, c := range []struct {
				s           api.Stmt
				ahead, also string
			}{
				{whileOf(number(1), l...), "while 1 ", ""}, {eachOf("a", named("b"), l...), "each a in b ", ""}, {ifOf(number(1), l, nil), "if 1 ", ""},
				{ifOf(number(1), l, block(stmt(13, ""), stmt(14, ""))), "if 1 ", " else " + clause.PrintBlock(block(stmt(13, ""), stmt(14, "")), depth)},
			} {
				if got, want := clause.Print(c.s, depth), tabs(depth)+c.ahead+want+c.also+"\n"; got != want {
					t.Fatalf("Print(%+v, %d) = %q, want %q", c.s, depth, got, want)
				}
			}
		}
	}
	var pairs []api.Stmt
	for _, a := range allSamples() {
		for _, b := range allSamples() {
			pairs = block(a, b)
			if got, want := clause.PrintBlock(pairs, 0), "{\n"+clause.Print(a, 1)+clause.Print(b, 1)+"}"; got != want {
				t.Fatalf("PrintBlock(%+v) = %q, want %q", pairs, got, want)
			}
			l := tokens("{" + clause.Print(a, 0) + clause.Print(b, 0) + "}")
			check(t, clause.Block, l, pairs, len(l), api.Fail{})
		}
	}
}

// TestP1AnyStatement checks that Print and PrintBlock end for statements that are not valid.
func TestP1AnyStatement(t *testing.T) {
	args := []api.Expr{text("a"), title(named("a")), {Kind: 99}, {Kind: 13}, {Kind: 6, Op: 99}, named("b"), {Kind: 14, Num: 3}, {Kind: 9}, number(-1), number(2)}
	for kind := -3; kind <= 40; kind++ {
		for n := range len(args) + 1 {
			s := api.Stmt{Kind: kind, Num: -7, Name: "n", Args: args[:n]}
			full := s
			full.Body, full.Else = block(s, s), block(s)
			for _, depth := range []int{-1 << 62, -1, 0, 64, 1 << 62} {
				clause.Print(full, depth)
				clause.PrintBlock(block(s, full), depth)
			}
		}
	}
	for _, kind := range []int{-1 << 63, 1<<63 - 1, 1 << 32, 256 + 1} {
		clause.Print(api.Stmt{Kind: kind}, 0)
	}
	deepest := stmt(13, "")
	for range 1 << 14 {
		deepest = ifOf(number(1), block(deepest), nil)
	}
	if got := strings.Count(clause.Print(deepest, 0), "\n"); got != 2<<14+1 {
		t.Fatalf("Print of a deep statement has %d lines", got)
	}
}

// TestP1AnyTokens checks that Parse and Block end for tokens that lex does not make, and for long lists.
func TestP1AnyTokens(t *testing.T) {
	d := &dice{5}
	letters := append(alphabet(), api.Tok{Kind: 9, Text: "say"}, api.Tok{Kind: -1}, api.Tok{Kind: 5, Text: "say"}, api.Tok{Kind: 4, Text: ";"}, api.Tok{Kind: 1}, api.Tok{Kind: 3, Text: "if"}, api.Tok{Kind: 2, Num: -5}, api.Tok{Kind: 4, Text: "EXPR"}, api.Tok{Kind: 4, Text: "PROP"}, api.Tok{Kind: 5})
	for range 30000 {
		var l []api.Tok
		for range d.below(12) {
			l = append(l, letters[d.below(len(letters))])
		}
		for _, parse := range []parser{parseOne, clause.Block} {
			if got, used, fail := parse(l); used > len(l) || fail != (api.Fail{}) && (used != 0 || got != nil) {
				t.Fatalf("%s gives %+v, %d, %+v", shown(l), got, used, fail)
			}
		}
	}
	for _, first := range []string{"say", `"if"`, "while"} {
		l := tokens("a = 1;")
		l[0] = api.Tok{Kind: 3, Text: strings.Trim(first, `"`)}
		check(t, parseOne, l, nil, 0, api.Fail{Err: api.ErrToken, Line: 0, Col: 0})
	}
	for _, word := range []string{"stop", "}", "look", ";"} {
		l := slices.Concat(tokens("{"), []api.Tok{{Kind: 3, Text: word, Line: 4, Col: 2}}, tokens("; }"))
		check(t, clause.Block, l, nil, 0, api.Fail{Err: api.ErrToken, Line: 4, Col: 2})
	}
	long := slices.Repeat(tokens("("), 1000000)
	if _, used, fail := clause.Parse(long); used != 0 || fail.Err != api.ErrDepth {
		t.Fatalf("Parse of many parentheses = %d, %+v", used, fail)
	}
	behind := slices.Concat(tokens("f(1).x = 2;"), slices.Repeat(tokens("a = ( } "), 200000))
	check(t, parseOne, behind, block(stmt(4, "x", call("f", number(1)), number(2))), 9, api.Fail{})
	largest := "{ " + strings.Repeat("while 1 { "+strings.Repeat("a = -(1); ", 250)+"} ", 7) + "}"
	checkPasses(t, clause.Block, largest)
}

// TestCallsChangeAndRememberNothing checks R3 and R4.
func TestCallsChangeAndRememberNothing(t *testing.T) {
	l := tokens(`{ say "a", title(b), f(1); a.b = 2; if a { stop; } else if b { win; } (a + b).c.d = 1; f(a); }`)
	kept := slices.Clone(l)
	first, used, _ := clause.Block(l)
	printed := clause.PrintBlock(first, 0)
	first[0].Args[2].Args[0].Num = 99
	first[1].Args[0].Name, first[1].Args[1].Num = "changed", 3
	first[2].Else[0].Body[0].Kind = 15
	first[3].Args[0] = named("changed")
	clause.Parse(tokens("say ("))
	second, n, fail := clause.Block(l)
	if !slices.Equal(l, kept) || clause.PrintBlock(second, 0) != printed || n != used || fail != (api.Fail{}) {
		t.Fatalf("%s gives %+v the second time", shown(l), second)
	}
	if printed != definedBlock(second, 0) {
		t.Fatalf("PrintBlock changed %+v", second)
	}
	spare := append(make([]api.Tok, 0, 100), tokens("(a).x = (b")...)
	check(t, parseOne, spare, nil, 0, api.Fail{Err: api.ErrShort})
	short := append(make([]api.Tok, 0, 100), l[1:4]...)
	full := slices.Clone(short[:cap(short)])
	check(t, parseOne, short[:1], nil, 0, api.Fail{Err: api.ErrShort})
	within := tokens("a.x + 1 ; b = 1 ;")
	before := slices.Clone(within)
	clause.Parse(within[:3])
	clause.Parse(within)
	if !slices.Equal(within, before) || !slices.Equal(full, short[:cap(short)]) {
		t.Fatalf("Parse changed %s", shown(within))
	}
}

// TestNumbersAsTheyArePrinted checks numbers of all lengths.
func TestNumbersAsTheyArePrinted(t *testing.T) {
	for _, n := range []int{0, 9, 10, 99, 32767} {
		checkPrint(t, stmt(12, "", number(n)), "return "+strconv.Itoa(n)+";\n")
	}
}
