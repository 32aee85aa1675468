package fold

import "clew/api"

// Block returns l with its expressions folded, and without the ifs and whiles whose conditions decide at once.
func Block(l []api.Stmt) []api.Stmt {
	var folded []api.Stmt
	collect := func(stmts []api.Stmt) { folded = append(folded, stmts...) }
	for i, s := range l {
		behind := len(l) - i - 1
		collect(decided(stmt(s), api.MaxBlock-len(folded)-behind))
	}
	return folded
}

// stmt returns s with its expressions and its blocks folded.
func stmt(s api.Stmt) api.Stmt {
	folded := s
	folded.Args = mapped(s.Args, Expr)
	folded.Body, folded.Else = Block(s.Body), Block(s.Else)
	return folded
}

// decided returns the statements that take the place of s, whose parts are folded, where there is room for that many.
func decided(s api.Stmt, room int) []api.Stmt {
	kept := []api.Stmt{s}
	if len(s.Args) != 1 || !isNumber(s.Args[0]) {
		return kept
	}
	holds := isTrue(s.Args[0].Num)
	switch s.Kind {
	case api.StIf:
		if chosen := branch(s, holds); len(chosen) <= room {
			return chosen
		}
	case api.StWhile:
		if !holds {
			return nil
		}
	}
	return kept
}

// branch returns the statements of an if that are executed if its condition holds, or if it does not.
func branch(s api.Stmt, holds bool) []api.Stmt {
	if holds {
		return s.Body
	}
	return s.Else
}
