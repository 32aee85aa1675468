package fold_test

import (
	"fmt"
	"math/big"
	"slices"
	"testing"

	"clew/api"
	"clew/fold"
	"clew/tree"
)

// TestOperators is what each binary operator of two numbers becomes.
func TestOperators(t *testing.T) {
	for _, row := range []struct{ op, left, right, want int }{
		{or, 0, 0, 0}, {or, 0, 1, 1}, {or, 0, 7, 1}, {or, 0, -32768, 1}, {or, 1, 0, 1}, {or, 7, 0, 1}, {or, -7, 0, 1}, {or, 5, 6, 1}, {or, 4, 2, 1},
		{and, 0, 0, 0}, {and, 0, 1, 0}, {and, 0, 7, 0}, {and, 1, 0, 0}, {and, 7, 0, 0}, {and, 1, 1, 1}, {and, 1, 7, 1}, {and, 7, 1, 1}, {and, 4, 2, 1}, {and, -1, -32768, 1},
		{eq, 3, 3, 1}, {eq, 3, 4, 0}, {eq, -3, 3, 0}, {eq, 0, 0, 1}, {eq, -32768, -32768, 1}, {eq, -32768, 32767, 0},
		{ne, 3, 3, 0}, {ne, 3, 4, 1}, {ne, -3, 3, 1}, {ne, -1, -1, 0}, {ne, 32767, -32768, 1},
		{lt, 3, 4, 1}, {lt, 4, 4, 0}, {lt, 5, 4, 0}, {lt, -1, 0, 1}, {lt, -32768, 32767, 1}, {lt, 32767, -32768, 0}, {lt, -1, 1, 1},
		{le, 3, 4, 1}, {le, 4, 4, 1}, {le, 5, 4, 0}, {le, 0, -1, 0}, {le, -32768, 32767, 1}, {le, 32767, -32768, 0},
		{gt, 3, 4, 0}, {gt, 4, 4, 0}, {gt, 5, 4, 1}, {gt, 0, -1, 1}, {gt, 32767, -32768, 1}, {gt, -32768, 32767, 0},
		{ge, 3, 4, 0}, {ge, 4, 4, 1}, {ge, 5, 4, 1}, {ge, -1, 0, 0}, {ge, 32767, -32768, 1}, {ge, -32768, 32767, 0},
		{add, 2, 3, 5}, {add, -2, 3, 1}, {add, 32767, 1, -32768}, {add, 32767, 32767, -2}, {add, -32768, -1, 32767}, {add, -32768, -32768, 0}, {add, 0, 0, 0},
		{sub, 2, 3, -1}, {sub, 3, 2, 1}, {sub, -32768, 1, 32767}, {sub, 0, -32768, -32768}, {sub, 32767, -1, -32768}, {sub, -32768, 32767, 1},
		{mul, 2, 3, 6}, {mul, -2, 3, -6}, {mul, 300, 300, 24464}, {mul, -32768, -1, -32768}, {mul, 32767, 32767, 1}, {mul, -32768, -32768, 0}, {mul, 0, -5, 0}, {mul, 32767, 2, -2},
		{div, 7, 2, 3}, {div, -7, 2, -3}, {div, 7, -2, -3}, {div, -7, -2, 3}, {div, -32768, -1, -32768}, {div, 0, 5, 0}, {div, 1, 32767, 0}, {div, -32768, 32767, -1}, {div, 6, 3, 2},
		{mod, 7, 2, 1}, {mod, -7, 2, -1}, {mod, 7, -2, 1}, {mod, -7, -2, -1}, {mod, -32768, -1, 0}, {mod, 0, 5, 0}, {mod, 6, 3, 0}, {mod, -32768, 32767, -1}, {mod, 5, -32768, 5},
	} {
		checkExpr(t, bin(row.op, num(row.left), num(row.right)), num(row.want))
	}
}

// TestErrors is that an operator that gives an error is kept, and so is in, also between numbers.
func TestErrors(t *testing.T) {
	for _, n := range []int{-32768, -1, 0, 1, 7, 32767} {
		for _, e := range []api.Expr{bin(div, num(n), num(0)), bin(mod, num(n), num(0)), bin(in, num(n), num(2)), bin(in, num(2), num(n)), bin(in, num(n), num(n))} {
			checkExpr(t, e, e)
			checkExpr(t, of(not, e), of(not, e))
			checkExpr(t, bin(add, num(1), e), bin(add, num(1), e))
			checkExpr(t, bin(and, num(0), e), num(0))
			checkExpr(t, bin(or, num(n|1), e), num(1))
			checkExpr(t, bin(or, e, num(1)), bin(or, e, num(1)))
		}
	}
}

// result is what a binary operator of two values becomes, reckoned without bounds; false: it is kept.
func result(op, left, right int) (int, bool) {
	a, b := big.NewInt(int64(left)), big.NewInt(int64(right))
	order := a.Cmp(b)
	if truths := map[int]bool{or: a.Sign() != 0 || b.Sign() != 0, and: a.Sign() != 0 && b.Sign() != 0, eq: order == 0, ne: order != 0, lt: order < 0, le: order <= 0, gt: order > 0, ge: order >= 0}; op <= ge {
		return map[bool]int{true: 1}[truths[op]], true
	}
	z := new(big.Int)
	switch {
	case op == add:
		z.Add(a, b)
	case op == sub:
		z.Sub(a, b)
	case op == mul:
		z.Mul(a, b)
	case op == in || right == 0:
		return 0, false
	case op == div:
		z.Quo(a, b)
	case op == mod:
		z.Rem(a, b)
	}
	// The representative of z modulo 2^16 that is a value.
	z.Add(z, big.NewInt(32768)).Mod(z, big.NewInt(65536)).Sub(z, big.NewInt(32768))
	return int(z.Int64()), true
}

// someValues is values at and about all that may matter.
func someValues() []int {
	l := []int{-32768, -32767, -32766, -16384, -257, -256, -182, -181, 181, 182, 255, 256, 257, 1000, 16383, 16384, 32765, 32766, 32767}
	for n := range 25 {
		l = append(l, n-12)
	}
	return l
}

// TestAllOperators compares each binary operator with what it is without bounds, for many pairs of numbers.
func TestAllOperators(t *testing.T) {
	for op := or; op <= mod; op++ {
		for _, left := range someValues() {
			for _, right := range someValues() {
				e := bin(op, num(left), num(right))
				want := e
				if n, constant := result(op, left, right); constant {
					want = num(n)
				}
				check(t, fmt.Sprint(left, operators()[op], right), fold.Expr(e), want)
			}
		}
	}
}

// TestAllNumbers is what operators become with each number on one side.
func TestAllNumbers(t *testing.T) {
	for n := -32768; n <= 32767; n++ {
		isZero := map[bool]int{true: 1}[n == 0]
		check(t, fmt.Sprint("not ", n), fold.Expr(of(not, num(n))), num(isZero))
		negative := -n
		if n == -32768 {
			negative = n
		}
		check(t, fmt.Sprint("- ", n), fold.Expr(of(neg, num(n))), num(negative))
		check(t, fmt.Sprint(n), fold.Expr(num(n)), num(n))
		f := call(0)
		check(t, fmt.Sprint(n, " or f()"), fold.Expr(bin(or, num(n), f)), []api.Expr{num(1), bin(or, num(0), f)}[isZero])
		check(t, fmt.Sprint(n, " and f()"), fold.Expr(bin(and, num(n), f)), []api.Expr{bin(and, num(n), f), num(0)}[isZero])
	}
}

// unknown is expressions of each kind that are no numbers and in which there is nothing to fold.
func unknown() []api.Expr {
	return []api.Expr{
		{Kind: global}, {Kind: global, Num: 3}, {Kind: local}, {Kind: local, Num: 2}, expr("f()"), expr("g(1)"), expr("h(x, 2)"),
		expr("here"), expr("player"), expr("noun"), expr("second"), expr("number"), expr("score"),
		expr("random(5)"), expr("random(0)"), expr("parent(3)"), expr("child(2)"), expr("next(a)"), expr("4 has lit"), expr("x has hidden"), expr("4.size"), expr("lamp.cost"),
		of(title, num(4)), {Kind: text, Num: 2}, of(neg, expr("x")), of(not, expr("a")), expr("1 in 2"), expr("x in y"),
		expr("1 / 0"), expr("0 % 0"), expr("x or 1"), expr("x and 0"), expr("0 or x"), expr("1 and x"), expr("-7 and x"),
		expr("x == x"), expr("x - x"), expr("x * 0"), expr("0 * x"), expr("x + 0"), expr("0 / x"), expr("x / 1"), expr("x % 1"), expr("x < x"), expr("1 != x"), expr("x >= 1"),
	}
}

// TestNothingElse is that expressions without constants are kept.
func TestNothingElse(t *testing.T) {
	for _, e := range unknown() {
		if !tree.Bound(wholeBook().Tables, e, 3) {
			t.Fatalf("this is no expression of the book: %+v", e)
		}
		checkExpr(t, e, e)
	}
}

// TestOneNumber is what a binary operator becomes if one operand alone is a number.
func TestOneNumber(t *testing.T) {
	for _, e := range unknown() {
		for op := or; op <= mod; op++ {
			for _, n := range []int{-32768, -2, -1, 0, 1, 2, 7, 32767} {
				left, right := bin(op, num(n), e), bin(op, e, num(n))
				checkExpr(t, right, right)
				switch {
				case op == and && n == 0:
					checkExpr(t, left, num(0))
				case op == or && n != 0:
					checkExpr(t, left, num(1))
				default:
					checkExpr(t, left, left)
				}
			}
			both := bin(op, e, e)
			checkExpr(t, both, both)
		}
	}
}

// TestUnary is what not and unary minus become.
func TestUnary(t *testing.T) {
	for _, row := range []struct{ n, not, neg int }{{0, 1, 0}, {1, 0, -1}, {-1, 0, 1}, {7, 0, -7}, {-7, 0, 7}, {2, 0, -2}, {32767, 0, -32767}, {-32767, 0, 32767}, {-32768, 0, -32768}, {256, 0, -256}} {
		checkExpr(t, of(not, num(row.n)), num(row.not))
		checkExpr(t, of(neg, num(row.n)), num(row.neg))
	}
	for _, e := range unknown() {
		checkExpr(t, of(not, e), of(not, e))
		checkExpr(t, of(neg, e), of(neg, e))
		checkExpr(t, of(not, of(not, e)), of(not, of(not, e)))
		checkExpr(t, of(neg, of(neg, e)), of(neg, of(neg, e)))
	}
}

// TestFromInside is that what operands become counts for what is around them.
func TestFromInside(t *testing.T) {
	for _, row := range [][2]string{
		{"not not 0", "0"}, {"not not 7", "1"}, {"not not not 7", "0"}, {"not (1 - 1)", "1"}, {"not (2 * 3)", "0"},
		{"-(1 + 2)", "-3"}, {"-(-(1 + 2))", "3"}, {"-(not 0)", "-1"}, {"not -(0 * 5)", "1"}, {"not -(2 > 1)", "0"},
		{"1 + 2 + 3 + 4", "10"}, {"(1 + 2) * (3 + 4)", "21"}, {"2 - (3 - 4)", "3"}, {"2 - 3 - 4", "-5"}, {"100 / 7 % 4", "2"},
		{"(2 > 1) + (1 > 2)", "1"}, {"1 + 1 == 2", "1"}, {"1 or 2 and 0", "1"}, {"(1 or 2) and 0", "0"}, {"0 and 1 or 5", "1"}, {"0 or 0 or 0", "0"},
		{"32767 + 1 < 0", "1"}, {"300 * 300", "24464"}, {"(1 - 1) or 4 - 2 * 2", "0"}, {"5 and 6 and 7", "1"},
		{"x + (1 + 2)", "x + 3"}, {"x + 1 + 2", "x + 1 + 2"}, {"1 + 2 + x", "3 + x"}, {"1 + x + 2", "1 + x + 2"}, {"(1 - 1) * x", "0 * x"},
		{"(1 - 1) and f()", "0"}, {"(3 - 2) or f()", "1"}, {"(3 - 2) and f()", "1 and f()"}, {"(1 - 1) or f()", "0 or f()"},
		{"f() and (1 - 1)", "f() and 0"}, {"f() or (1 + 1)", "f() or 2"}, {"f() and 1 - 1 and x", "f() and 0 and x"}, {"0 and f() and x", "0"}, {"1 or f() or x", "1"}, {"0 and f() or 3", "1"}, {"0 and f() or x", "0 or x"},
		{"(1 or f()) + (0 and f())", "1"}, {"not (0 and f())", "1"}, {"-(1 or x)", "-1"}, {"(0 and x) == (0 and y)", "1"},
		{"1 / (1 - 1)", "1 / 0"}, {"(1 + 1) / (2 - 2) + (1 + 2)", "2 / 0 + 3"}, {"(2 + 3) % (0 * 4)", "5 % 0"}, {"0 and 1 / 0", "0"}, {"1 or 1 / 0", "1"}, {"1 / 0 and 0", "1 / 0 and 0"}, {"0 * (1 / 0)", "0 * (1 / 0)"},
		{"(1 + 1) in (2 + 2)", "2 in 4"}, {"not ((1 + 1) in 3)", "not (2 in 3)"}, {"x in (1 + 1)", "x in 2"}, {"(0 and x) in (1 or y)", "0 in 1"},
	} {
		checkExpr(t, expr(row[0]), expr(row[1]))
	}
}

// TestArguments is that the arguments of each kind of expression are folded, and that the rest of it is kept.
func TestArguments(t *testing.T) {
	for _, row := range [][2]string{
		{"f()", "f()"}, {"g(1 + 1)", "g(2)"}, {"h(1 + 1, 2 * 2)", "h(2, 4)"}, {"h(x, 1 - 1)", "h(x, 0)"}, {"h(not 0, y + 1)", "h(1, y + 1)"},
		{"g(g(1 + 1) + (2 + 2))", "g(g(2) + 4)"}, {"g(0 and f())", "g(0)"}, {"g(1 or f()) and 0", "g(1) and 0"},
		{"parent(1 + 1)", "parent(2)"}, {"child(1 + 1)", "child(2)"}, {"next(1 + 1)", "next(2)"}, {"parent(child(2 + 1))", "parent(child(3))"},
		{"random(2 * 3)", "random(6)"}, {"random(1 / 1)", "random(1)"}, {"random(1) == 1", "random(1) == 1"},
		{"(1 + 1) has lit", "2 has lit"}, {"(1 + 1) has hidden", "2 has hidden"}, {"(1 + 1) has warm", "2 has warm"}, {"not ((1 + 1) has warm)", "not (2 has warm)"},
		{"(1 + 1).size", "2 .size"}, {"(1 + 1).cost", "2 .cost"}, {"(1 + 1).cost.size", "2 .cost.size"},
		{"h(1 / 0, 1 / 1)", "h(1 / 0, 1)"}, {"f() + (1 + 1)", "f() + 2"}, {"here == 1 + 1", "here == 2"}, {"a + (b + (c + (1 + 1)))", "a + (b + (c + 2))"},
	} {
		checkExpr(t, expr(row[0]), expr(row[1]))
	}
	checkExpr(t, of(title, expr("1 + 1")), of(title, num(2)))
	checkExpr(t, of(title, of(not, of(not, expr("x")))), of(title, of(not, of(not, expr("x")))))
	eight := func(e api.Expr) []api.Expr { return slices.Repeat([]api.Expr{e}, 8) }
	for _, f := range []int{0, 1, 63, 1000} {
		checkExpr(t, call(f, eight(expr("1 + 1"))...), call(f, eight(num(2))...))
	}
	for n := range 70 {
		for _, kind := range []int{has, prop} {
			checkExpr(t, api.Expr{Kind: kind, Num: n, Args: []api.Expr{expr("1 + 1")}}, api.Expr{Kind: kind, Num: n, Args: []api.Expr{num(2)}})
		}
		for _, kind := range []int{global, local, text} {
			checkExpr(t, api.Expr{Kind: kind, Num: n}, api.Expr{Kind: kind, Num: n})
		}
	}
}

// around is what holds one operand and keeps it.
func around(e api.Expr) []api.Expr {
	return []api.Expr{
		call(1, e), call(2, e, expr("y")), call(2, expr("y"), e), of(random, e), {Kind: parts, Op: 1, Args: []api.Expr{e}}, {Kind: parts, Op: 2, Args: []api.Expr{e}}, {Kind: parts, Op: 3, Args: []api.Expr{e}},
		{Kind: has, Num: 1, Args: []api.Expr{e}}, {Kind: prop, Num: 1, Args: []api.Expr{e}}, of(title, e), bin(in, e, num(1)), bin(in, num(1), e), bin(add, e, expr("x")), bin(le, expr("x"), e), bin(div, e, num(0)), bin(and, expr("x"), e), bin(or, expr("x"), e), of(neg, bin(sub, e, expr("x"))), of(not, bin(in, e, e)),
	}
}

// TestWithin is that what can be folded is folded within each kind of expression, at each depth.
func TestWithin(t *testing.T) {
	before, after := expr("2 * 3 + 1"), num(7)
	outer, wanted := around(before), around(after)
	for i := range outer {
		checkExpr(t, outer[i], wanted[i])
		for k := range outer {
			checkExpr(t, around(outer[i])[k], around(wanted[i])[k])
		}
	}
	e, want := before, after
	for range 29 {
		e, want = of(random, e), of(random, want)
	}
	checkExpr(t, e, want)
	e = num(1)
	for range 31 {
		e = bin(add, e, num(1))
	}
	checkExpr(t, e, num(32))
	e = num(1)
	for range 31 {
		e = bin(sub, num(1), e)
	}
	checkExpr(t, e, num(0))
}
