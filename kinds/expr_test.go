package kinds_test

import (
	"strings"
	"testing"

	"clew/api"
)

// answer is what is said about an expression or statements with that text.
type answer struct {
	text string
	err  api.Errno
	name string
}

// locals is those that are visible to the expressions of exprAnswers; the last three are called like names of the source.
func locals() []string { return []string{"x", "y", "z", "worn", "count", "add"} }

// exprAnswers is expressions of each kind with what is said about them.
func exprAnswers() []answer {
	return []answer{
		{"1", api.OK, ""}, {"32767", api.OK, ""}, {"here", api.OK, ""}, {"player", api.OK, ""}, {"noun", api.OK, ""}, {"second", api.OK, ""}, {"number", api.OK, ""}, {"score", api.OK, ""},
		{"time", api.OK, ""}, {"mood", api.OK, ""}, {"hall", api.OK, ""}, {"lamp", api.OK, ""}, {"coin", api.OK, ""}, {"yard", api.OK, ""},
		{"x", api.OK, ""}, {"y", api.OK, ""}, {"z", api.OK, ""}, {"worn", api.OK, ""}, {"count", api.OK, ""}, {"add", api.OK, ""},
		{"lit", api.ErrKind, "lit"}, {"hidden", api.ErrKind, "hidden"}, {"wet", api.ErrKind, "wet"}, {"size", api.ErrKind, "size"}, {"age", api.ErrKind, "age"}, {"take", api.ErrKind, "take"}, {"twice", api.ErrKind, "twice"}, {"tick", api.ErrKind, "tick"},
		{"bad", api.ErrNone, "bad"}, {"lamps", api.ErrNone, "lamps"}, {"lam", api.ErrNone, "lam"}, {"xx", api.ErrNone, "xx"}, {"a", api.ErrNone, "a"},
		{"-1", api.OK, ""}, {"-time", api.OK, ""}, {"-bad", api.ErrNone, "bad"}, {"not x", api.OK, ""}, {"not wet", api.ErrKind, "wet"}, {"random(6)", api.OK, ""}, {"random(bad)", api.ErrNone, "bad"},
		{"parent(lamp)", api.OK, ""}, {"child(bad)", api.ErrNone, "bad"}, {"next(take)", api.ErrKind, "take"}, {"1 + 2 * time", api.OK, ""}, {"x in hall", api.OK, ""}, {"1 or bad", api.ErrNone, "bad"}, {"bad and 1", api.ErrNone, "bad"},
		{"lamp has lit", api.OK, ""}, {"lamp has warm", api.OK, ""}, {"lamp has worn", api.OK, ""}, {"x has open", api.OK, ""}, {"bad has lit", api.ErrNone, "bad"},
		{"lamp has bad", api.ErrNone, "bad"}, {"lamp has x", api.ErrNone, "x"}, {"lamp has size", api.ErrKind, "size"}, {"lamp has count", api.ErrKind, "count"}, {"lamp has lamp", api.ErrKind, "lamp"}, {"lamp has take", api.ErrKind, "take"}, {"lamp has add", api.ErrKind, "add"}, {"lamp has tick", api.ErrKind, "tick"},
		{"lamp.size", api.OK, ""}, {"lamp.age", api.OK, ""}, {"x.cost", api.OK, ""}, {"parent(lamp).cost", api.OK, ""}, {"lamp.cost.age.size", api.OK, ""}, {"bad.size", api.ErrNone, "bad"},
		{"lamp.bad", api.ErrNone, "bad"}, {"lamp.x", api.ErrNone, "x"}, {"lamp.lit", api.ErrKind, "lit"}, {"lamp.worn", api.ErrKind, "worn"}, {"lamp.count", api.ErrKind, "count"}, {"lamp.lamp", api.ErrKind, "lamp"}, {"lamp.take", api.ErrKind, "take"}, {"lamp.add", api.ErrKind, "add"}, {"lamp.tick", api.ErrKind, "tick"},
		{"twice(1)", api.OK, ""}, {"add(1, 2, 3)", api.OK, ""}, {"zero()", api.OK, ""}, {"twice(twice(x))", api.OK, ""}, {"add(x, lamp, time)", api.OK, ""}, {"all8(1, 2, 3, 4, 5, 6, 7, 8)", api.OK, ""},
		{"bad()", api.ErrNone, "bad"}, {"x()", api.ErrNone, "x"}, {"lit()", api.ErrKind, "lit"}, {"worn()", api.ErrKind, "worn"}, {"size(1)", api.ErrKind, "size"}, {"count()", api.ErrKind, "count"}, {"lamp(1)", api.ErrKind, "lamp"}, {"take()", api.ErrKind, "take"}, {"tick()", api.ErrKind, "tick"},
		{"twice()", api.ErrCount, "twice"}, {"twice(1, 2)", api.ErrCount, "twice"}, {"zero(1)", api.ErrCount, "zero"}, {"add()", api.ErrCount, "add"}, {"add(1, 2)", api.ErrCount, "add"}, {"add(1, 2, 3, 4)", api.ErrCount, "add"}, {"all8(1, 2, 3, 4, 5, 6, 7)", api.ErrCount, "all8"},
	}
}

// TestExprKinds is 16.1: expressions of each kind alone.
func TestExprKinds(t *testing.T) {
	for _, a := range exprAnswers() {
		checkExpr(t, locals(), expr(a.text), a.err, a.name)
	}
	checkExpr(t, nil, api.Expr{Kind: 2, Name: "bad"}, api.OK, "")
	checkExpr(t, nil, api.Expr{Kind: 13, Args: []api.Expr{expr("lamp")}}, api.OK, "")
	checkExpr(t, nil, api.Expr{Kind: 13, Args: []api.Expr{expr("bad")}}, api.ErrNone, "bad")
	checkExpr(t, nil, api.Expr{Kind: 13, Args: []api.Expr{expr("lamp has size")}}, api.ErrKind, "size")
}

// frames is expressions that contain another one at E.
func frames() []string {
	l := []string{"-(E)", "not (E)", "(E) has lit", "(E).size", "random(E)", "parent(E)", "child(E)", "next(E)", "twice(E)", "add(E, x, 1)", "add(x, E, 1)", "add(x, 1, E)", "all8(1, 2, 3, E, 5, 6, 7, 8)", "all8(1, 2, 3, 4, 5, 6, 7, E)", "((E) + 1) * 2 - x", "-(-(not (twice(twice(E)))))"}
	for _, sign := range []string{"or", "and", "==", "!=", "<", "<=", ">", ">=", "in", "+", "-", "*", "/", "%"} {
		l = append(l, "(E) "+sign+" 1", "time "+sign+" (E)")
	}
	return l
}

// within is a frame with an expression.
func within(frame, text string) string { return strings.ReplaceAll(frame, "E", text) }

// TestExprWithin is 16.1: expressions of each kind within others, and deep within them.
func TestExprWithin(t *testing.T) {
	s, n := shared()
	for i, frame := range frames() {
		for _, a := range exprAnswers() {
			checkExpr(t, locals(), expr(within(frame, a.text)), a.err, a.name)
		}
		for _, other := range frames() {
			a := exprAnswers()[i%len(exprAnswers())]
			checkExpr(t, locals(), expr(within(frame, within(other, a.text))), a.err, a.name)
		}
	}
	for _, a := range exprAnswers() {
		e := expr(a.text)
		for e = expr(a.text); depth(e) < 32; {
			e = api.Expr{Kind: 5, Args: []api.Expr{e}}
		}
		checkAnswer(t, n, s, e, a)
	}
}

// TestExprFirst is 16.1: an expression is checked ahead of its Args, and those from left to right.
func TestExprFirst(t *testing.T) {
	for _, a := range []answer{
		{"bad has worse", api.ErrNone, "worse"}, {"bad has size", api.ErrKind, "size"}, {"wet has worse", api.ErrNone, "worse"}, {"bad.worse", api.ErrNone, "worse"}, {"bad.wet", api.ErrKind, "wet"}, {"bad.wet.worse", api.ErrNone, "worse"}, {"bad.wet.size", api.ErrKind, "wet"},
		{"worse(bad)", api.ErrNone, "worse"}, {"lamp(bad)", api.ErrKind, "lamp"}, {"twice(bad, 1)", api.ErrCount, "twice"}, {"twice(bad)", api.ErrNone, "bad"}, {"zero(bad)", api.ErrCount, "zero"}, {"twice(zero(bad))", api.ErrCount, "zero"}, {"twice(zero(1), bad)", api.ErrCount, "twice"},
		{"bad + worse", api.ErrNone, "bad"}, {"worse + bad", api.ErrNone, "worse"}, {"wet + bad", api.ErrKind, "wet"}, {"bad + wet", api.ErrNone, "bad"}, {"1 + bad * wet - zero(1)", api.ErrNone, "bad"}, {"(lamp has size) + (1 + bad)", api.ErrKind, "size"},
		{"add(bad, worse, wet)", api.ErrNone, "bad"}, {"add(1, wet, bad)", api.ErrKind, "wet"}, {"add(1, 2, bad)", api.ErrNone, "bad"}, {"add(wet, bad, zero(1))", api.ErrKind, "wet"}, {"add(zero(1), bad, wet)", api.ErrCount, "zero"}, {"add(-(1 + bad), wet, 1)", api.ErrNone, "bad"},
		{"all8(1, 2, wet, bad, 5, 6, 7, worse)", api.ErrKind, "wet"}, {"all8(1, 2, 3, 4, 5, 6, worse, bad)", api.ErrNone, "worse"},
	} {
		checkExpr(t, locals(), expr(a.text), a.err, a.name)
	}
}

// TestExprCalls is 16.1: calls with each number of Args.
func TestExprCalls(t *testing.T) {
	s, _ := shared()
	for _, f := range s.Funcs {
		for count := range 9 {
			e := api.Expr{Kind: 9, Name: f.Name, Args: list(count, func(i int) api.Expr { return api.Expr{Kind: 1, Num: i} })}
			if count == len(f.Params) {
				checkExpr(t, nil, e, api.OK, "")
			} else {
				checkExpr(t, nil, e, api.ErrCount, f.Name)
			}
		}
	}
}

// TestExprLocals is 16.1: the first, a middle and the last one of the locals, and one without the others.
func TestExprLocals(t *testing.T) {
	many := list(24, func(i int) string { return "l" + strings.Repeat("o", i) })
	for i, name := range many {
		checkExpr(t, many, api.Expr{Kind: 3, Name: name}, api.OK, "")
		checkExpr(t, []string{name}, api.Expr{Kind: 3, Name: name}, api.OK, "")
		checkExpr(t, many[:i], api.Expr{Kind: 3, Name: name}, api.ErrNone, name)
		checkExpr(t, many[i+1:], api.Expr{Kind: 3, Name: name}, api.ErrNone, name)
	}
	checkExpr(t, []string{"x", "x"}, expr("x + x"), api.OK, "")
	checkExpr(t, []string{}, expr("x"), api.ErrNone, "x")
	for _, name := range []string{"lit", "wet", "size", "count", "lamp", "take", "twice", "tick"} {
		checkExpr(t, []string{name}, expr("1 + "+name), api.OK, "")
		checkExpr(t, []string{name}, expr("lamp has wet and lamp.size and twice(1)"), api.OK, "")
	}
}

// TestExprNumbers is 16.1: names of each kind with each number, whatever it is called.
func TestExprNumbers(t *testing.T) {
	s, n := shared()
	for _, entry := range n {
		kindErr := func(kinds ...int) answer {
			for _, kind := range kinds {
				if entry.Kind == kind {
					return answer{}
				}
			}
			return answer{err: api.ErrKind, name: entry.Name}
		}
		one := []api.Expr{{Kind: 1}}
		checkAnswer(t, n, s, api.Expr{Kind: 3, Name: entry.Name}, kindErr(globalName, thingName))
		checkAnswer(t, n, s, api.Expr{Kind: 7, Name: entry.Name, Args: one}, kindErr(flagName))
		checkAnswer(t, n, s, api.Expr{Kind: 8, Name: entry.Name, Args: one}, kindErr(propName))
		called := kindErr(funcName)
		if called.err == api.OK && len(s.Funcs[entry.Num].Params) != 1 {
			called = answer{err: api.ErrCount, name: entry.Name}
		}
		checkAnswer(t, n, s, api.Expr{Kind: 9, Name: entry.Name, Args: one}, called)
	}
}
