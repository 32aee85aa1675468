package decl_test

import (
	"slices"
	"strings"

	"clew/api"
)

// grammarText is the grammars of the chapters 11 to 13 without their limits. Words with a capital letter are symbols; NAME, NUMBER, TEXT and DIR are kinds of tokens, and BAR is the sign |.
const grammarText = `
Source = Head | Head Decls
Head = story TEXT by TEXT release NUMBER max NUMBER start NAME ;
Decls = Decl | Decls Decl
Decl = flag Names ; | prop NAME = Int ; | global NAME = Int ; | room NAME TEXT Object | thing NAME TEXT Object | thing NAME TEXT in NAME Object
Decl = verb NAME = Lines ; | verb NAME meta = Lines ; | func NAME ( ) Block | func NAME ( Names ) Block | daemon NAME Block
Decl = Phase NAME Block | Phase NAME Things Block | Phase NAME if Expr Block | Phase NAME Things if Expr Block
Parts = Part | Parts Part
Part = words Texts ; | adjs Texts ; | is Names ; | NAME = Int ; | exit DIR to NAME ; | exit DIR to NAME else TEXT ; | exit DIR to NAME if Expr ; | exit DIR to NAME if Expr else TEXT ;
Described = text TEXT ;
Int = NUMBER | - NUMBER
Phase = before | on | after
Things = ( Which ) | ( Which , Which )
Which = NAME | any
Lines = Line | Lines BAR Line
Line = Slot | Line Slot
Slot = Choices | noun | many | number | dir
Choices = TEXT | Choices / TEXT
Names = NAME | Names , NAME
Texts = TEXT | Texts , TEXT
Stmt = say Items ; | let NAME = Expr ; | NAME = Expr ; | Tight . NAME = Expr ; | set Expr is NAME ; | unset Expr is NAME ;
Stmt = move Expr to Expr ; | remove Expr ; | If | while Expr Block | each NAME in Expr Block
Stmt = return Expr ; | stop ; | win ; | lose ; | award Expr ; | start NAME in Expr ; | halt NAME ; | Call ;
Stmt = travel Expr ; | look ; | list Expr ;
If = if Expr Block | if Expr Block else Block | if Expr Block else If
Block = { } | { Stmts }
Stmts = Stmt | Stmts Stmt
Items = Item | Items , Item
Item = Expr | TEXT | title ( Expr )
Tight = Primary | Tight . NAME
Expr = And | Expr or And
And = Not | And and Not
Not = Compared | not Not
Compared = Sum | Sum == Sum | Sum != Sum | Sum < Sum | Sum <= Sum | Sum > Sum | Sum >= Sum | Sum in Sum | Sum has NAME
Sum = Product | Sum + Product | Sum - Product
Product = Negated | Product * Negated | Product / Negated | Product % Negated
Negated = Tight | - Negated
Primary = NUMBER | NAME | Call | ( Expr ) | here | player | noun | second | number | score
Primary = parent ( Expr ) | child ( Expr ) | next ( Expr ) | random ( Expr )
Call = NAME ( ) | NAME ( Args )
Args = Expr | Args , Expr
`

// What an object contains: one text at most, or any number of them.
const (
	oneText  = "Object = { } | { Parts } | { Described } | { Described Parts } | { Parts Described } | { Parts Described Parts }\n"
	anyTexts = "Object = { } | { Parts }\nPart = Described\n"
)

// directionList is the keywords that are directions, by their numbers.
const directionList = "north south east west northeast northwest southeast southwest up down in out"

// production is one of the ways in which a symbol can be written.
type production struct {
	symbol string
	parts  []string
}

// grammar is the ways in which the symbols can be written.
type grammar struct {
	all []production
	of  map[string][]int // the places in all of the ways of a symbol
}

func newGrammar(objects string) grammar {
	g := grammar{of: map[string][]int{}}
	for line := range strings.Lines(grammarText + objects) {
		symbol, ways, ok := strings.Cut(strings.TrimSpace(line), " = ")
		if !ok {
			continue
		}
		for way := range strings.SplitSeq(ways, " | ") {
			g.of[symbol] = append(g.of[symbol], len(g.all))
			g.all = append(g.all, production{symbol, strings.Fields(way)})
		}
	}
	return g
}

// item is a production of which some parts have been read, and the number of tokens ahead of the first one.
type item struct{ way, read, from int }

// reading is what tokens can be read as: after each number of them, the items that are possible then.
type reading struct {
	g    grammar
	sets [][]item
}

// read begins to read a symbol.
func (g grammar) read(symbol string) reading {
	first := []item{}
	for _, way := range g.of[symbol] {
		first = append(first, item{way: way})
	}
	r := reading{g: g}
	return r.with(first)
}

// with adds what is possible after the next token, and all that follows from it.
func (r reading) with(set []item) reading {
	now := len(r.sets)
	known := map[item]bool{}
	add := func(i item) {
		if !known[i] {
			known[i] = true
			set = append(set, i)
		}
	}
	for _, i := range set {
		known[i] = true
	}
	for at := 0; at < len(set); at++ {
		i := set[at]
		part, ok := r.expected(i)
		if ok {
			for _, way := range r.g.of[part] {
				add(item{way: way, from: now})
			}
			continue
		}
		for _, outer := range r.sets[i.from] {
			if wanted, _ := r.expected(outer); wanted == r.g.all[i.way].symbol {
				add(item{outer.way, outer.read + 1, outer.from})
			}
		}
	}
	return reading{r.g, append(slices.Clip(r.sets), set)}
}

// expected is the next part of an item, if there is one.
func (r reading) expected(i item) (string, bool) {
	parts := r.g.all[i.way].parts
	if i.read == len(parts) {
		return "", false
	}
	return parts[i.read], true
}

// next is the reading with one more token.
func (r reading) next(tok api.Tok) reading {
	var set []item
	for _, i := range r.sets[len(r.sets)-1] {
		if part, ok := r.expected(i); ok && isPart(tok, part) {
			set = append(set, item{i.way, i.read + 1, i.from})
		}
	}
	return r.with(set)
}

// isPart reports whether a token is that part of a production.
func isPart(tok api.Tok, part string) bool {
	switch tok.Kind {
	case 1:
		return part == "NAME"
	case 2:
		return part == "NUMBER"
	case 3:
		return part == "TEXT"
	case 4:
		return part == tok.Text || part == "DIR" && slices.Contains(strings.Fields(directionList), tok.Text)
	case 5:
		return part == tok.Text || part == "BAR" && tok.Text == "|"
	}
	return false
}

// possible reports whether the tokens can be the beginning of the symbol.
func (r reading) possible() bool {
	return len(r.sets[len(r.sets)-1]) > 0
}

// complete reports whether the tokens are the symbol.
func (r reading) complete() bool {
	whole := r.g.all[r.sets[0][0].way].symbol
	return slices.ContainsFunc(r.sets[len(r.sets)-1], func(i item) bool {
		_, more := r.expected(i)
		return !more && i.from == 0 && r.g.all[i.way].symbol == whole
	})
}

// verdict is how many tokens can be read as the beginning of a source with objects of one text, and the failure.
type verdict struct {
	read int
	fail api.Fail
}

// sources is the readings of sources.
type sources struct{ strict, lenient reading }

func newSources() sources {
	return sources{newGrammar(oneText).read("Source"), newGrammar(anyTexts).read("Source")}
}

// next is the readings with one more token.
func (s sources) next(tok api.Tok) sources {
	return sources{s.strict.next(tok), s.lenient.next(tok)}
}

// after is the readings with more tokens.
func (s sources) after(l []api.Tok) sources {
	for _, tok := range l {
		s = s.next(tok)
	}
	return s
}

// verdict is what is to be told of l, of which the first tokens have been read.
func (s sources) verdict(l []api.Tok) verdict {
	at := len(s.strict.sets) - 1
	for at < len(l) {
		longer := s.next(l[at])
		if !longer.strict.possible() {
			return verdict{at, failing(s, longer, l[at])}
		}
		s, at = longer, at+1
	}
	if !s.strict.complete() {
		return verdict{at, api.Fail{Err: api.ErrShort}}
	}
	return verdict{at, api.Fail{}}
}

// failing is the failure of a token with which the readings become longer ones that are not possible.
func failing(s, longer sources, tok api.Tok) api.Fail {
	err := api.ErrToken
	switch {
	case tok.Kind == 0 && s.strict.complete():
		return api.Fail{}
	case tok.Kind == 0:
		err = api.ErrShort
	case longer.lenient.possible():
		err = api.ErrTwice
	}
	return api.Fail{Err: err, Line: tok.Line, Col: tok.Col}
}
