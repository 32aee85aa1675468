package decl_test

import (
	"strings"
	"testing"

	"clew/api"
)

// The limits that the chapter names.
const (
	mostFlags   = 16
	mostProps   = 16
	mostGlobals = 64
	mostObjects = 126
	mostVerbs   = 64
	mostRules   = 512
	mostFuncs   = 64
	mostDaemons = 16
	mostParams  = 8
	mostWords   = 8
	mostLines   = 8
	mostSlots   = 8
	mostTexts   = 4
	mostExits   = 12
	mostDepth   = 31 // of a condition
)

// listing is a list of declarations that begin with keywords of their own.
type listing struct {
	words string // the keywords
	most  int
	text  func(i int) string // the i-th declaration behind its keyword
	count func(s api.Source) int
}

func listings() []listing {
	pair := func(i int) string { return " " + name(i) + " = 1; " }
	object := func(i int) string { return " " + name(i) + ` "t" { } ` }
	verb := func(i int) string { return " " + name(i) + " = dir; " }
	rule := func(i int) string { return " " + name(i) + " { } " }
	function := func(i int) string { return " " + name(i) + "() { } " }
	return []listing{
		{"prop", mostProps, pair, func(s api.Source) int { return len(s.Props) }},
		{"global", mostGlobals, pair, func(s api.Source) int { return len(s.Globals) }},
		{"room thing", mostObjects, object, func(s api.Source) int { return len(s.Objects) }},
		{"verb", mostVerbs, verb, func(s api.Source) int { return len(s.Verbs) }},
		{"before on after", mostRules, rule, func(s api.Source) int { return len(s.Rules) }},
		{"func", mostFuncs, function, func(s api.Source) int { return len(s.Funcs) }},
		{"daemon", mostDaemons, rule, func(s api.Source) int { return len(s.Daemons) }},
	}
}

// declarations is the text of n declarations, of which each has the keyword that word tells.
func (l listing) declarations(n int, word func(i int, words []string) string) string {
	return many(n, "", func(i int) string { return word(i, strings.Fields(l.words)) + l.text(i) })
}

// mixed is each keyword in turn.
func mixed(i int, words []string) string { return words[i%len(words)] }

// checkCounts checks that the declarations src are read, and how many of each listing there are.
func checkCounts(t *testing.T, src string, counts ...int) {
	t.Helper()
	got := checkPasses(t, src)
	for i, l := range listings() {
		if n := l.count(got); n != counts[i] {
			t.Fatalf("there are %d of %s, not %d", n, l.words, counts[i])
		}
	}
}

// fullSource is the declarations of a source in which nothing more can be declared.
func fullSource() string {
	src := "flag " + many(mostFlags, ", ", name) + "; "
	for _, l := range listings() {
		src += l.declarations(l.most, mixed)
	}
	return src
}

// TestPromise13_1LimitsOfTheStory checks each kind of declaration at its limit and one above it, and that the kinds are counted apart.
func TestPromise13_1LimitsOfTheStory(t *testing.T) {
	var counts []int
	for _, l := range listings() {
		counts = append(counts, l.most)
	}
	full := fullSource()
	checkCounts(t, full, counts...)
	for i, l := range listings() {
		for _, n := range []int{l.most - 1, l.most} {
			alone := make([]int, len(counts))
			alone[i] = n
			checkCounts(t, l.declarations(n, mixed), alone...)
		}
		most := l.declarations(l.most, mixed)
		for _, word := range strings.Fields(l.words) {
			checkFails(t, api.ErrCount, head+most+"@"+word+l.text(0))
			checkFails(t, api.ErrCount, head+most+"@"+word)
			checkFails(t, api.ErrCount, head+most+"@"+word+" ; ; ;")
			checkFails(t, api.ErrCount, head+full+"@"+word+l.text(l.most))
			checkFails(t, api.ErrShort, head+l.declarations(l.most-1, mixed)+word+"@")
		}
		for _, wrong := range []string{";", "}", "a", "5", `"t"`, "in", "say 1;", "= 1;"} {
			checkFails(t, api.ErrToken, head+most+"@"+wrong)
		}
		for j, other := range listings() {
			if i != j {
				checkPasses(t, most+other.declarations(1, mixed))
			}
		}
	}
	checkFails(t, api.ErrCount, head+full+"flag @a;")
	checkFails(t, api.ErrToken, head+full+"flag @;")
	checkFails(t, api.ErrToken, head+full+"@;")
}

// TestPromise13_1KeywordsCountedTogether checks that rooms and things, and the rules of all phases, share one limit.
func TestPromise13_1KeywordsCountedTogether(t *testing.T) {
	for _, l := range listings() {
		words := strings.Fields(l.words)
		for _, first := range words {
			for _, second := range words {
				for _, n := range []int{0, 1, l.most / 2, l.most - 1, l.most} {
					src := l.declarations(l.most, func(i int, _ []string) string {
						if i < n {
							return first
						}
						return second
					})
					checkPasses(t, src)
					checkFails(t, api.ErrCount, head+src+"@"+first+l.text(0))
					checkFails(t, api.ErrCount, head+src+"@"+second+l.text(0))
				}
			}
		}
	}
}

// TestPromise13_1LimitOfFlags checks flags in one declaration and in several ones.
func TestPromise13_1LimitOfFlags(t *testing.T) {
	want := api.Source{}
	for i := range mostFlags {
		want.Flags = append(want.Flags, name(i))
	}
	for _, parts := range divided(mostFlags, name) {
		src := "flag " + strings.Join(parts, "; flag ") + ";"
		checkDecls(t, src, want)
		checkFails(t, api.ErrCount, head+src+" flag @a;")
		checkFails(t, api.ErrCount, head+src+" prop p = 1; flag @a, b;")
		checkFails(t, api.ErrCount, head+strings.TrimSuffix(src, ";")+", @a;")
		checkFails(t, api.ErrCount, head+strings.TrimSuffix(src, ";")+", @a")
		checkFails(t, api.ErrShort, head+strings.TrimSuffix(src, ";")+",@")
		checkFails(t, api.ErrShort, head+src+" flag@")
		for _, wrong := range []string{";", "5", `"a"`, ",", "in", "}", "flag a;"} {
			checkFails(t, api.ErrToken, head+strings.TrimSuffix(src, ";")+", @"+wrong)
			checkFails(t, api.ErrToken, head+src+" flag @"+wrong)
		}
		checkFails(t, api.ErrToken, head+strings.TrimSuffix(src, ";")+" @a;")
	}
}

// divided is the ways in which n elements are divided into one list, two or three ones, and lists of one; the elements of a list are joined by commas.
func divided(n int, text func(i int) string) [][]string {
	span := func(from, to int) string {
		return many(to-from, ", ", func(i int) string { return text(from + i) })
	}
	var alone []string
	for i := range n {
		alone = append(alone, span(i, i+1))
	}
	return [][]string{{span(0, n)}, {span(0, 1), span(1, n)}, {span(0, n-1), span(n-1, n)}, {span(0, n/2), span(n/2, n/2+1), span(n/2+1, n)}, alone}
}

// possession is a list of what an object has, which stands behind a keyword.
type possession struct {
	word string
	most int
	text func(i int) string
	fits string // the kind of token of an element
	want func(l []string) api.Object
}

func possessions() []possession {
	return []possession{
		{"is", mostFlags, name, "a", func(l []string) api.Object { return api.Object{Flags: l} }},
		{"words", mostWords, quoted, `"a"`, func(l []string) api.Object { return api.Object{Words: l} }},
		{"adjs", mostWords, quoted, `"a"`, func(l []string) api.Object { return api.Object{Adjs: l} }},
	}
}

// TestPromise13_1LimitsOfItems checks the flags, words and adjs of an object in one item and in several ones.
func TestPromise13_1LimitsOfItems(t *testing.T) {
	for _, p := range possessions() {
		var all []string
		for i := range p.most {
			all = append(all, name(i))
		}
		for _, parts := range divided(p.most, p.text) {
			for _, between := range []string{"; ", "; p = 1; "} {
				src := p.word + " " + strings.Join(parts, between+p.word+" ")
				if between == "; " {
					checkItems(t, src+";", p.want(all))
				}
				checkItemFails(t, api.ErrCount, itemsWith(src, p.word)+" @"+p.fits+";")
				checkItemFails(t, api.ErrCount, src+", @"+p.fits+";")
				checkItemFails(t, api.ErrCount, src+", @"+p.fits)
				checkItemFails(t, api.ErrShort, src+",@")
				for _, wrong := range []string{";", "5", ",", "in", "}", "is", "-", map[string]string{"a": `"a"`, `"a"`: "a"}[p.fits]} {
					checkItemFails(t, api.ErrToken, src+", @"+wrong)
					checkItemFails(t, api.ErrToken, itemsWith(src, p.word)+" @"+wrong)
				}
			}
		}
	}
}

// itemsWith is items with another one of that keyword behind them.
func itemsWith(src, word string) string { return src + "; text \"t\"; " + word }

// TestPromise13_1LimitsOfPropsAndExits checks the props and exits of an object.
func TestPromise13_1LimitsOfPropsAndExits(t *testing.T) {
	var props []api.Pair
	var exits []api.Exit
	for i := range mostProps {
		props = append(props, api.Pair{Name: name(i), Num: i})
	}
	for i, dir := range strings.Fields(directionList) {
		exits = append(exits, api.Exit{Dir: i + 1, To: "c", Else: "t"})
		checkItemFails(t, api.ErrCount, fullExits("words \"a\"; ")+" @exit "+dir+" to c;")
	}
	pairs := many(mostProps, " ", func(i int) string { return name(i) + " = " + strings.TrimPrefix(name(i), "n") + ";" })
	checkItems(t, pairs, api.Object{Props: props})
	checkItems(t, fullExits(""), api.Object{Exits: exits})
	for _, between := range []string{"", "text \"t\"; ", "is lit; ", "adjs \"a\"; "} {
		apart := strings.ReplaceAll(pairs, "; n8 ", "; "+between+"n8 ")
		for _, behind := range []string{" = 1;", " = ", ";", "", " = 1; b = 2;", " = -"} {
			checkItemFails(t, api.ErrCount, apart+" @a"+behind)
			checkItemFails(t, api.ErrCount, apart+" is lit; @a"+behind)
		}
		for _, behind := range []string{" in to c;", "", ";", " in to c if 1 else \"t\";", " to"} {
			checkItemFails(t, api.ErrCount, fullExits(between)+" @exit"+behind)
			checkItemFails(t, api.ErrCount, fullExits(between)+" is lit; @exit"+behind)
		}
		for _, wrong := range []string{";", "5", `"a"`, "in", "= 1;", "to c;", "-"} {
			checkItemFails(t, api.ErrToken, apart+" @"+wrong)
			checkItemFails(t, api.ErrToken, fullExits(between)+" @"+wrong)
		}
		checkItemFails(t, api.ErrShort, apart+"@")
		checkItemFails(t, api.ErrShort, fullExits(between)+"@")
	}
	checkPasses(t, `room a "b" { `+pairs+" "+fullExits("")+" }")
}

// fullExits is as many exits as an object can have; between stands behind the fifth one.
func fullExits(between string) string {
	dirs := strings.Fields(directionList)
	return many(mostExits, " ", func(i int) string {
		ahead := ""
		if i == 5 {
			ahead = between
		}
		return ahead + "exit " + dirs[i] + ` to c else "t";`
	})
}

// fullObject is an object in which there can be nothing more but a text.
func fullObject(word string) string {
	pairs := many(mostProps, " ", func(i int) string { return name(i) + " = 1;" })
	return word + ` a "b" { is ` + many(mostFlags, ", ", name) + "; words " + many(mostWords, ", ", quoted) + "; adjs " + many(mostWords, ", ", quoted) + "; " + pairs + " " + fullExits("") + " } "
}

// TestPromise13_1EachObjectIsCountedApart checks that limits of objects hold for each one, and not for the story.
func TestPromise13_1EachObjectIsCountedApart(t *testing.T) {
	objects := strings.Repeat(fullObject("room")+fullObject("thing"), 10)
	story := "flag " + many(mostFlags, ", ", name) + "; " + listings()[0].declarations(mostProps, mixed)
	for _, src := range []string{objects, objects + story, story + objects} {
		s := checkPasses(t, src)
		for _, o := range s.Objects {
			if len(o.Flags) != 16 || len(o.Words) != 8 || len(o.Adjs) != 8 || len(o.Props) != 16 || len(o.Exits) != 12 {
				t.Fatalf("an object is %+v", o)
			}
		}
	}
	ahead := strings.TrimSuffix(head+objects, "} ")
	for _, more := range []string{"is @a;", `words @"a";`, `adjs @"a";`, "@a = 1;", "@exit in to c;"} {
		checkFails(t, api.ErrCount, ahead+more)
		checkFails(t, api.ErrCount, ahead+`text "t"; `+more)
		checkFails(t, api.ErrCount, head+story+strings.TrimSuffix(objects, "} ")+more)
	}
	checkFails(t, api.ErrTwice, ahead+`text "t"; @text "t";`)
}

// TestPromise13_1LimitsOfVerbs checks lines, slots and texts of slots.
func TestPromise13_1LimitsOfVerbs(t *testing.T) {
	texts := many(mostTexts, " / ", quoted)
	for _, slot := range []string{"noun", "many", "number", "dir", `"a"`, `"a" / "b"`, texts} {
		line := many(mostSlots, " ", func(int) string { return slot })
		for _, filled := range []string{slot, line} {
			lines := many(mostLines, " | ", func(int) string { return filled })
			for _, ahead := range []string{"verb v = ", "verb v meta = ", "verb w = " + lines + "; verb v = "} {
				checkPasses(t, ahead+line+";")
				checkPasses(t, ahead+lines+";")
				for _, first := range []string{"noun", "many", "number", "dir", `"a"`} {
					for _, behind := range []string{";", "", " noun;", " |", ` / "b"`} {
						checkFails(t, api.ErrCount, head+ahead+line+" @"+first+behind)
						checkFails(t, api.ErrCount, head+ahead+"dir | "+line+" @"+first+behind)
						checkFails(t, api.ErrCount, head+ahead+lines+" | @"+first+behind)
					}
				}
				for _, wrong := range []string{";", "|", "/", "a", "5", "in", "=", "}", "verb"} {
					checkFails(t, api.ErrToken, head+ahead+lines+" | @"+wrong)
				}
				checkFails(t, api.ErrShort, head+ahead+lines+" |@")
				checkFails(t, api.ErrShort, head+ahead+line+"@")
				checkFails(t, api.ErrToken, head+ahead+line+" @a;")
			}
		}
	}
}

// TestPromise13_1LimitOfTextsOfASlot checks the fifth text of a slot, wherever that slot stands.
func TestPromise13_1LimitOfTextsOfASlot(t *testing.T) {
	var want []string
	for i := range mostTexts {
		want = append(want, name(i))
		slot := api.Slot{Kind: 1, Words: want}
		checkDecls(t, "verb v = "+many(i+1, " / ", quoted)+";", api.Source{Verbs: []api.Verb{{Name: "v", Lines: [][]api.Slot{{slot}}}}})
	}
	texts := many(mostTexts, " / ", quoted)
	line := texts + strings.Repeat(" "+texts, mostSlots-1)
	for _, ahead := range []string{"", "noun ", `"a" `, texts + " ", "dir | ", strings.Repeat("dir ", mostSlots-1), strings.Repeat(line+" | ", mostLines-1) + strings.Repeat("dir ", mostSlots-1)} {
		checkPasses(t, "verb v = "+ahead+texts+";")
		for _, behind := range []string{"", ";", ` / "b"`, " noun", " |"} {
			checkFails(t, api.ErrCount, head+"verb v = "+ahead+texts+` / @"a"`+behind)
		}
		for _, wrong := range []string{";", "/", "noun", "a", "5", "|", "in"} {
			checkFails(t, api.ErrToken, head+"verb v = "+ahead+texts+" / @"+wrong)
		}
		checkFails(t, api.ErrShort, head+"verb v = "+ahead+texts+" /@")
	}
}

// TestPromise13_1LimitOfParams checks functions with up to 8 params, and a ninth one.
func TestPromise13_1LimitOfParams(t *testing.T) {
	want := api.Func{Name: "f"}
	for i := range mostParams {
		want.Params = append(want.Params, name(i))
		checkDecls(t, "func f("+many(i+1, ", ", name)+") { }", api.Source{Funcs: []api.Func{want}})
	}
	full := "func f(" + many(mostParams, ", ", name)
	for _, ahead := range []string{"", full + ") { } ", "flag " + many(mostFlags, ", ", name) + "; "} {
		for _, behind := range []string{") { }", "", ", b", ";", " b"} {
			checkFails(t, api.ErrCount, head+ahead+full+", @a"+behind)
		}
		for _, wrong := range []string{")", ",", "5", `"a"`, "in", "any", "{"} {
			checkFails(t, api.ErrToken, head+ahead+full+", @"+wrong)
		}
		checkFails(t, api.ErrShort, head+ahead+full+",@")
		checkFails(t, api.ErrToken, head+ahead+full+" @a) { }")
	}
}

// conditions is what stands ahead of a condition and behind it.
func conditions() [][2]string {
	return [][2]string{
		{"on take if ", " { }"}, {"before take (a) if ", " { stop; }"}, {"after take (any, b) if ", " { say 1; }"},
		{`room a "b" { exit in to c if `, "; }"}, {`thing a "b" in c { is lit; exit up to c if `, ` else "t"; }`},
	}
}

// TestPromise13_1DepthOfConditions checks conditions that are as deep as they can be, and one deeper.
func TestPromise13_1DepthOfConditions(t *testing.T) {
	most := deep(mostDepth)
	for _, c := range conditions() {
		checkPasses(t, c[0]+most+c[1])
		checkPasses(t, c[0]+"("+most+")"+c[1])
		checkPasses(t, c[0]+strings.Repeat("(", 60)+most+strings.Repeat(")", 60)+c[1])
		checkPasses(t, c[0]+"a + "+deep(mostDepth-1)+c[1])
		for _, deeper := range []string{
			most + ".x", "(" + most + ").x", "(" + most + ".x)", "not " + most, "-" + most, "a + " + most, most + " + a", most + " or a", "a == " + most, most + " has lit", "1 in " + most,
			"f(" + most + ")", "f(1, " + most + ")", "random(" + most + ")", "parent(" + most + ")", "((a + (" + most + ")))", "f(a, 1 + " + deep(mostDepth-1) + ")",
		} {
			checkFail(t, api.ErrDepth, c[0]+"@"+deeper+c[1])
			checkFail(t, api.ErrDepth, c[0]+"@"+deeper+c[1]+" ; ; ;")
			for _, wrong := range []string{"", " }", " if 1", " to in", ` "t"`, " , a"} {
				checkFail(t, api.ErrDepth, c[0]+"@"+deeper+wrong)
			}
		}
		checkFail(t, api.ErrDepth, c[0]+most+".x@.x"+c[1])
		checkFail(t, api.ErrDepth, c[0]+most+".x @+ 1"+c[1])
		checkFail(t, api.ErrDepth, c[0]+"@not "+most+".x"+c[1])
		checkFail(t, api.ErrDepth, c[0]+"1 + @f("+most+".x)"+c[1])
		checkFail(t, api.ErrToken, c[0]+most+".x + @"+c[1])
		checkFail(t, api.ErrToken, c[0]+"("+most+".x @"+c[1])
		checkFail(t, api.ErrShort, c[0]+most+".x.@")
	}
	checkPasses(t, "on take if "+most+" { say "+most+"; }")
	checkFail(t, api.ErrDepth, "on take if "+most+" { @say "+most+".x; }")
	checkFail(t, api.ErrDepth, "on take if @"+most+".x { say "+most+".x; }")
}

// brokenExpressions is expressions with an error at the token behind the mark @, whatever stands behind them.
func brokenExpressions() map[api.Errno][]string {
	open := strings.Repeat("(", 64)
	ones := "f(1, 1, 1, 1, 1, 1, 1, 1"
	most := deep(mostDepth + 1)
	return map[api.Errno][]string{
		api.ErrToken: {"@", "a + @", "a * @* b", "(a @b)", "(a @", "a has @5", "a == @not b", "parent @a", "parent @", "a == b @== c", "a == b @has lit", "random(@)", "a @b", "a.@(b)", "1@(b)",
			"f(a, @)", "f(a @b)", "(a @;)", "@stop", "@any", "not @;", "- @not a", open + "@;", `@"a"`, "@title(a)", `a + @"a"`, "@else"},
		api.ErrCount: {ones + "@, 1)", "g(" + ones + "@, 1))", "a + " + ones + "@, ;", ones + "@,"},
		api.ErrDepth: {open + "@(a", open + "@-a", open + "@not a", open + "f@(a", open + "random@(a", open[1:] + "-@(a", open + "parent@()",
			most + "@.x", most + "@.x + ;", most + " @== b", "b + a - " + most + " @* b", "b @+ " + most, most + " @has lit", "@-" + most, "@not " + most, "@f(" + most + ")", "1 + @random(" + most + ")", "1 + f(@child(" + most + ")"},
	}
}

// TestPromise13_1ErrorsOfExpressions checks the errors of layer 11 and their places in conditions and in blocks.
func TestPromise13_1ErrorsOfExpressions(t *testing.T) {
	places := append(conditions(), [][2]string{{"on take { award ", "; }"}, {"func f() { return ", "; }"}, {"daemon d { if 1 { } else { b = ", "; } }"}}...)
	for _, c := range places {
		for err, list := range brokenExpressions() {
			for _, src := range list {
				if strings.HasPrefix(c[1], ` else`) && src == "@else" {
					continue
				}
				checkFail(t, err, c[0]+src+c[1])
			}
		}
		for _, src := range []string{"", "a +", "(a", "not", "-", "f(", "f(1,", "a has", "a.", "parent", "random(", "a in", "a", "1", "f()"} {
			checkFail(t, api.ErrShort, c[0]+src+"@")
		}
	}
}

// TestPromise13_1ErrorsOfBlocks checks the errors of layer 12 and their places, wherever there is a block.
func TestPromise13_1ErrorsOfBlocks(t *testing.T) {
	deepest := strings.Repeat("while 1 { ", 31)
	most := deep(32)
	for _, ahead := range []string{"before take ", "on take (a) ", "after take if 1 ", "func f() ", "func f(a, b) ", "daemon d ", "daemon e { } daemon d ", "func f() { win; } on take { stop; } daemon d "} {
		for err, list := range map[api.Errno][]string{
			api.ErrToken: {"@stop;", "@;", "@}", "@to", "@5", `@"t"`, "{ @; }", "{ @{ } }", "{ say @; }", "{ stop @}", "{ 1 @+ 1; }", "{ a @; }", "{ f() @}", "{ let @5 = 1; }", "{ if 1 @; }", "{ if 1 { } else @; }", "{ @else { } }", "{ stop; @flag a; }", "{ a = 1 @, b = 2; }", `{ say 1 @"a"; }`, "{ @- 1; }", "{ halt @5; }", "{ travel @north; }", "{ @title(a); }", "{ } @}", "{ stop; } @stop;"},
			api.ErrCount: {"{ say 1, 2, 3, 4, 5, 6, 7, 8, @9; }", "{ while 1 { say 1, 2, 3, 4, 5, 6, 7, 8, @title(a); } }", "{ f(1, 2, 3, 4, 5, 6, 7, 8@, 9); }", "{ " + strings.Repeat("stop; ", 256) + "@stop; }", "{ if 1 { } else { " + strings.Repeat("a = 1; ", 256) + "@a = 1; } }"},
			api.ErrDepth: {"{ " + deepest + "while 1 @{ } }", "{ @say " + most + "; }", "{ stop; @award not " + deep(31) + "; }", "{ while 1 { @say " + deep(31) + "; } }", "{ say " + most + "@.x; }", "{ @if " + most + " { } }", "{ " + deepest + "@say 1, -1; } }", "{ a = " + strings.Repeat("(", 64) + "@(1); }"},
		} {
			for _, src := range list {
				checkFail(t, err, ahead+src)
				checkFail(t, err, ahead+src+" flag a;")
			}
		}
		for _, src := range []string{"", "{", "{ stop", "{ stop;", "{ if 1 { }", "{ if 1 { } else", "{ say 1,", "{ a", "{ a.x", "{ while 1 {", "{ while 1 { }"} {
			checkFail(t, api.ErrShort, ahead+src+"@")
		}
		checkPasses(t, ahead+"{ say "+deep(31)+"; "+strings.Repeat("stop; ", 255)+"}")
		checkPasses(t, ahead+"{ "+deepest+strings.Repeat("} ", 31)+"}")
		checkPasses(t, ahead+"{ say 1, 2, 3, 4, 5, 6, 7, 8; f(1, 2, 3, 4, 5, 6, 7, 8); }")
	}
}

// TestPromise13_1WhichErrorIsTold checks that of several errors the first one from the left is told.
func TestPromise13_1WhichErrorIsTold(t *testing.T) {
	over := deep(mostDepth + 1)
	flags := "flag " + many(mostFlags, ", ", name)
	params := "func f(" + many(mostParams, ", ", name)
	rules := listings()[4].declarations(mostRules, mixed)
	for src, err := range map[string]api.Errno{
		flags + ", @a, ;":                                                                               api.ErrCount,
		flags + ", @; flag a;":                                                                          api.ErrToken,
		flags + "; @a; flag a;":                                                                         api.ErrToken,
		flags + "; flag @a; on b if " + over + " { }":                                                   api.ErrCount,
		"on b if @" + over + " { } " + flags + ", a;":                                                   api.ErrDepth,
		"on b if @" + over + " ; " + flags + ", a;":                                                     api.ErrDepth,
		"on b if " + over + " + @; " + flags + ", a;":                                                   api.ErrToken,
		"on b if " + over + "@.x ; " + flags + ", a;":                                                   api.ErrDepth,
		"on b if " + over + "@.x.x { } ;":                                                               api.ErrDepth,
		rules + "@on b if " + over + " { } ;":                                                           api.ErrCount,
		rules + "@on ; on":                                                                              api.ErrCount,
		rules + "@; on":                                                                                 api.ErrToken,
		"on b { @say " + over + "; } " + rules + "on b { }":                                             api.ErrDepth,
		`thing a "b" { text "t"; @text; text "t"; }`:                                                    api.ErrTwice,
		`thing a "b" { text "t"; is @; text "t"; }`:                                                     api.ErrToken,
		`thing a "b" { text @; text "t"; }`:                                                             api.ErrToken,
		`thing a "b" { text "t"; @text "t"; text; }`:                                                    api.ErrTwice,
		`thing a "b" { ` + fullExits("") + ` text "t"; @text "t"; exit in to c; }`:                      api.ErrTwice,
		`thing a "b" { ` + fullExits("") + ` text "t"; @exit in to c; text "t"; }`:                      api.ErrCount,
		`thing a "b" { ` + fullExits("") + ` @exit in to c if ` + over + "; }":                          api.ErrCount,
		`thing a "b" { exit in to c if @` + over + "; " + fullExits("") + " }":                          api.ErrDepth,
		`thing a "b" { is ` + many(mostFlags, ", ", name) + `, @a, 5; text ;`:                           api.ErrCount,
		"verb v = " + strings.Repeat("dir ", mostSlots) + "@noun a;":                                    api.ErrCount,
		"verb v = " + strings.Repeat("dir ", mostSlots) + "@a noun;":                                    api.ErrToken,
		"verb v = " + strings.Repeat("dir | ", mostLines) + "@" + strings.Repeat("dir ", 9):             api.ErrCount,
		"verb v = " + strings.Repeat("dir ", mostSlots) + "@dir " + strings.Repeat("| dir ", mostLines): api.ErrCount,
		params + ", @a b":              api.ErrCount,
		params + " @b, a":              api.ErrToken,
		params + ") { 5 @; } ; flag ;": api.ErrToken,
	} {
		checkFails(t, err, head+src)
	}
}
