package clause_test

import (
	"slices"
	"strings"

	"clew/api"
)

// grammarText is the grammars of the chapters 11 and 12 without their limits. Words with a capital letter are symbols; NAME, NUMBER and TEXT are kinds of tokens.
const grammarText = `
Stmt = say Items ; | let NAME = Expr ; | NAME = Expr ; | Tight . NAME = Expr ; | set Expr is NAME ; | unset Expr is NAME ;
Stmt = move Expr to Expr ; | remove Expr ; | If | while Expr Block | each NAME in Expr Block
Stmt = return Expr ; | stop ; | win ; | lose ; | award Expr ; | start NAME in Expr ; | halt NAME ; | Call ;
Stmt = travel Expr ; | look ; | list Expr ;
If = if Expr Block | if Expr Block else Block | if Expr Block else If
Block = { } | { Stmts }
Stmts = Stmt | Stmts Stmt
Items = Item | Items , Item
Item = Expr | TEXT | title ( Expr )
Tight = Primary | Tight . NAME
Expr = And | Expr or And
And = Not | And and Not
Not = Compared | not Not
Compared = Sum | Sum == Sum | Sum != Sum | Sum < Sum | Sum <= Sum | Sum > Sum | Sum >= Sum | Sum in Sum | Sum has NAME
Sum = Product | Sum + Product | Sum - Product
Product = Negated | Product * Negated | Product / Negated | Product % Negated
Negated = Tight | - Negated
Primary = NUMBER | NAME | Call | ( Expr ) | here | player | noun | second | number | score
Primary = parent ( Expr ) | child ( Expr ) | next ( Expr ) | random ( Expr )
Call = NAME ( ) | NAME ( Args )
Args = Expr | Args , Expr
`

// production is one of the ways in which a symbol can be written.
type production struct {
	symbol string
	parts  []string
}

// grammar is the ways in which the symbols can be written.
type grammar struct {
	all []production
	of  map[string][]int // the places in all of the ways of a symbol
}

func newGrammar() grammar {
	g := grammar{of: map[string][]int{}}
	for line := range strings.Lines(grammarText) {
		symbol, ways, ok := strings.Cut(strings.TrimSpace(line), " = ")
		if !ok {
			continue
		}
		for way := range strings.SplitSeq(ways, " | ") {
			g.of[symbol] = append(g.of[symbol], len(g.all))
			g.all = append(g.all, production{symbol, strings.Fields(way)})
		}
	}
	return g
}

// item is a production of which some parts have been read, and the number of tokens ahead of the first one.
type item struct{ way, read, from int }

// reading is what tokens can be read as: after each number of them, the items that are possible then.
type reading struct {
	g    grammar
	sets [][]item
}

// read begins to read a symbol.
func (g grammar) read(symbol string) reading {
	first := []item{}
	for _, way := range g.of[symbol] {
		first = append(first, item{way: way})
	}
	r := reading{g: g}
	return r.with(first)
}

// with adds what is possible after the next token, and all that follows from it.
func (r reading) with(set []item) reading {
	now := len(r.sets)
	known := map[item]bool{}
	add := func(i item) {
		if !known[i] {
			known[i] = true
			set = append(set, i)
		}
	}
	for _, i := range set {
		known[i] = true
	}
	for at := 0; at < len(set); at++ {
		i := set[at]
		part, ok := r.expected(i)
		if ok {
			for _, way := range r.g.of[part] {
				add(item{way: way, from: now})
			}
			continue
		}
		for _, outer := range r.sets[i.from] {
			if wanted, _ := r.expected(outer); wanted == r.g.all[i.way].symbol {
				add(item{outer.way, outer.read + 1, outer.from})
			}
		}
	}
	return reading{r.g, append(slices.Clip(r.sets), set)}
}

// expected is the next part of an item, if there is one.
func (r reading) expected(i item) (string, bool) {
	parts := r.g.all[i.way].parts
	if i.read == len(parts) {
		return "", false
	}
	return parts[i.read], true
}

// next is the reading with one more token.
func (r reading) next(tok api.Tok) reading {
	var set []item
	for _, i := range r.sets[len(r.sets)-1] {
		if part, ok := r.expected(i); ok && isPart(tok, part) {
			set = append(set, item{i.way, i.read + 1, i.from})
		}
	}
	return r.with(set)
}

// isPart reports whether a token is that part of a production.
func isPart(tok api.Tok, part string) bool {
	switch tok.Kind {
	case 1:
		return part == "NAME"
	case 2:
		return part == "NUMBER"
	case 3:
		return part == "TEXT"
	case 4, 5:
		return part == tok.Text
	}
	return false
}

// possible reports whether the tokens can be the beginning of the symbol.
func (r reading) possible() bool {
	return len(r.sets[len(r.sets)-1]) > 0
}

// complete reports whether the tokens are the symbol.
func (r reading) complete() bool {
	whole := r.g.all[r.sets[0][0].way].symbol
	return slices.ContainsFunc(r.sets[len(r.sets)-1], func(i item) bool {
		_, more := r.expected(i)
		return !more && i.from == 0 && r.g.all[i.way].symbol == whole
	})
}

// verdict is how many tokens are used, or the failure.
type verdict struct {
	used int
	fail api.Fail
}

// verdict is what is to be told of l, of which the first tokens have been read: as many tokens are used as can be, or the first one that cannot be fails.
func (r reading) verdict(l []api.Tok) verdict {
	used := len(r.sets) - 1
	for used < len(l) {
		longer := r.next(l[used])
		if !longer.possible() {
			break
		}
		r, used = longer, used+1
	}
	switch {
	case r.complete():
		return verdict{used: used}
	case used == len(l):
		return verdict{fail: api.Fail{Err: api.ErrShort}}
	case l[used].Kind == 0:
		return verdict{fail: api.Fail{Err: api.ErrShort, Line: l[used].Line, Col: l[used].Col}}
	}
	return verdict{fail: api.Fail{Err: api.ErrToken, Line: l[used].Line, Col: l[used].Col}}
}
