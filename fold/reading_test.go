package fold_test

import (
	"slices"

	"clew/api"
)

// reading is chapter 18, read sentence by sentence. It does one thing after the other, until there is nothing left to do.

// reduced is what e itself becomes, whose Args are folded; false: it is kept.
func reduced(e api.Expr) (api.Expr, bool) {
	isNumber := func(i int) bool { return e.Args[i].Kind == 1 }
	if e.Kind == binary {
		if isNumber(0) && isNumber(1) {
			if n, constant := result(e.Op, e.Args[0].Num, e.Args[1].Num); constant {
				return num(n), true
			}
		}
		if e.Op == and && isNumber(0) && e.Args[0].Num == 0 {
			return num(0), true
		}
		if e.Op == or && isNumber(0) && e.Args[0].Num != 0 {
			return num(1), true
		}
	}
	if e.Kind == not && isNumber(0) {
		return num(map[bool]int{true: 1}[e.Args[0].Num == 0]), true
	}
	if e.Kind == neg && isNumber(0) {
		if e.Args[0].Num == -32768 {
			return e.Args[0], true
		}
		return num(-e.Args[0].Num), true
	}
	return e, false
}

// step is e after the first, innermost change; false: there is none.
func step(e api.Expr) (api.Expr, bool) {
	for i, arg := range e.Args {
		if changed, does := step(arg); does {
			e.Args = slices.Clone(e.Args)
			e.Args[i] = changed
			return e, true
		}
	}
	return reduced(e)
}

// readExpr is what an expression becomes.
func readExpr(e api.Expr) api.Expr {
	for {
		changed, does := step(e)
		if !does {
			return e
		}
		e = changed
	}
}

// readStmt is s after its expressions and nested blocks are folded.
func readStmt(s api.Stmt) api.Stmt {
	s.Args = slices.Clone(s.Args)
	for i := range s.Args {
		s.Args[i] = readExpr(s.Args[i])
	}
	s.Body, s.Else = readBlock(s.Body), readBlock(s.Else)
	return s
}

// readBlock is what statements become. The list is at each time what the block is so far, together with the statements behind it as they are.
func readBlock(l []api.Stmt) []api.Stmt {
	l = slices.Clone(l)
	for at := 0; at < len(l); {
		s := readStmt(l[at])
		l[at] = s
		if s.Kind == while && s.Args[0].Kind == 1 && s.Args[0].Num == 0 {
			l = slices.Delete(l, at, at+1)
			continue
		}
		if s.Kind == branch && s.Args[0].Kind == 1 {
			instead := s.Body
			if s.Args[0].Num == 0 {
				instead = s.Else
			}
			if would := slices.Concat(l[:at], instead, l[at+1:]); len(would) <= 256 {
				l = would
				at += len(instead)
				continue
			}
		}
		at++
	}
	return l
}

// keeps reports whether an if with a number as its condition is among l or within one of l.
func keeps(l []api.Stmt) bool {
	return slices.ContainsFunc(l, func(s api.Stmt) bool {
		return s.Kind == branch && s.Args[0].Kind == 1 || keeps(s.Body) || keeps(s.Else)
	})
}
