package bind

import (
	"iter"
	"slices"

	"clew/api"
)

// playerTitle is the title of the player in every story.
const playerTitle = "yourself"

// Texts returns the texts of s, each once, in the order in which they first occur.
func Texts(s api.Source) []string {
	var texts []string
	known := map[string]bool{}
	collect := func(text string) {
		if !known[text] {
			known[text] = true
			texts = append(texts, text)
		}
	}
	collect(s.Title)
	collect(s.By)
	collect(playerTitle)
	for _, o := range s.Objects {
		collectOfObject(o, collect)
	}
	for stmt := range statements(s) {
		collectOfExprs(stmt.Args, collect)
	}
	return texts
}

// collectOfObject collects the texts of a room or a thing.
func collectOfObject(o api.Object, collect func(text string)) {
	collectGiven := func(text string) {
		if text != "" {
			collect(text)
		}
	}
	collect(o.Title)
	collectGiven(o.Text)
	for _, e := range o.Exits {
		collectGiven(e.Else)
	}
}

// collectOfExprs collects the texts in l.
func collectOfExprs(l []api.Expr, collect func(text string)) {
	for _, e := range l {
		if e.Kind == api.ExText {
			collect(e.Name)
		}
		collectOfExprs(e.Args, collect)
	}
}

// statements yields all statements of s from left to right, each ahead of those within it.
func statements(s api.Source) iter.Seq[api.Stmt] {
	return func(yield func(api.Stmt) bool) {
		for _, body := range bodies(s) {
			if !yieldAll(body, yield) {
				return
			}
		}
	}
}

// yieldAll yields the statements of l and those within them, and reports whether more are wanted.
func yieldAll(l []api.Stmt, yield func(api.Stmt) bool) bool {
	for _, s := range l {
		if !yield(s) || !yieldAll(s.Body, yield) || !yieldAll(s.Else, yield) {
			return false
		}
	}
	return true
}

// bodies returns the bodies of the rules, the functions and the daemons of s.
func bodies(s api.Source) [][]api.Stmt {
	ofFunc := func(f api.Func) []api.Stmt { return f.Body }
	return slices.Concat(
		mapped(s.Rules, func(r api.Rule) []api.Stmt { return r.Body }),
		mapped(s.Funcs, ofFunc),
		mapped(s.Daemons, ofFunc),
	)
}
