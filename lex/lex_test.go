package lex_test

import (
	"regexp"
	"slices"
	"strconv"
	"strings"
	"testing"

	"clew/api"
	"clew/lex"
)

// The limits that the chapter names.
const (
	mostBytes  = 65536
	mostName   = 24
	mostText   = 1024
	mostNumber = 32767
	mostTokens = 16384
)

// The words of the chapter.
const (
	keywordList   = "story by release max start flag prop global room thing in verb meta on before after if func daemon text words adjs is exit to else say let set unset move remove while each return stop win lose award halt travel look list or and not has parent child next random title here player noun second number score any many dir"
	directionList = "north south east west northeast northwest southeast southwest up down in out"
	signList      = "( ) { } , ; . | / + - * % = == != < <= > >="
)

func directions() []string { return strings.Fields(directionList) }
func signs() []string      { return strings.Fields(signList) }
func keywords() []string {
	list := strings.Fields(keywordList + " " + directionList)
	slices.Sort(list)
	return slices.Compact(list)
}

// The forms of the chapter, for a reader that is independent of the package. Each is searched at the beginning of what remains.
var (
	separatorForm = regexp.MustCompile(`\A(?:[ \t\n]|//[ -~\t]*)+`)
	wordForm      = regexp.MustCompile(`\A[a-z][a-z0-9_]*`)
	digitsForm    = regexp.MustCompile(`\A[0-9]+`)
	gluedForm     = regexp.MustCompile(`\A[0-9]+[A-Za-z_]`)
	numberForm    = regexp.MustCompile(`\A(?:0|[1-9][0-9]*)\z`)
	textForm      = regexp.MustCompile(`\A"(?:[ !#-\[\]-~]|\\[n"\\])*`)
	signForm      = regexp.MustCompile(`\A(?:==|!=|<=|>=|[(){},;.|/+*%=<>-])`)
)

// definedToken is the token that rest begins with and its source; or an error and the source ahead of its place.
func definedToken(rest string) (api.Tok, string, api.Errno) {
	if s := wordForm.FindString(rest); s != "" {
		switch {
		case slices.Contains(keywords(), s):
			return api.Tok{Kind: 4, Text: s}, s, api.OK
		case len(s) > mostName:
			return api.Tok{}, "", api.ErrName
		}
		return api.Tok{Kind: 1, Text: s}, s, api.OK
	}
	if s := digitsForm.FindString(rest); s != "" {
		if gluedForm.MatchString(rest) || !numberForm.MatchString(s) {
			return api.Tok{}, "", api.ErrForm
		}
		n, err := strconv.Atoi(s)
		if err != nil || n > mostNumber {
			return api.Tok{}, "", api.ErrRange
		}
		return api.Tok{Kind: 2, Num: n}, s, api.OK
	}
	if s := textForm.FindString(rest); s != "" {
		return definedText(s, rest[len(s):])
	}
	if s := signForm.FindString(rest); s != "" {
		return api.Tok{Kind: 5, Text: s}, s, api.OK
	}
	return api.Tok{}, "", api.ErrText
}

// definedText is the text token that begins with s, which is all that is well-formed, and goes on with rest.
func definedText(s, rest string) (api.Tok, string, api.Errno) {
	content := strings.NewReplacer(`\n`, "\n", `\"`, `"`, `\\`, `\`).Replace(s[1:])
	switch {
	case rest == "" || rest[0] == '\n':
		return api.Tok{}, "", api.ErrShort
	case rest[0] == '\\':
		return api.Tok{}, s, api.ErrForm
	case rest[0] != '"':
		return api.Tok{}, s, api.ErrText
	case len(content) > mostText:
		return api.Tok{}, "", api.ErrLong
	}
	return api.Tok{Kind: 3, Text: content}, s + `"`, api.OK
}

// position is the line and the column behind the bytes of ahead.
func position(ahead string) (line, col int) {
	return 1 + strings.Count(ahead, "\n"), len(ahead) - strings.LastIndexByte(ahead, '\n')
}

// definedAll is All by its definition.
func definedAll(src string) ([]api.Tok, api.Fail) {
	fail := func(err api.Errno, ahead string) ([]api.Tok, api.Fail) {
		line, col := position(ahead)
		return nil, api.Fail{Err: err, Line: line, Col: col}
	}
	if len(src) > mostBytes {
		return fail(api.ErrLong, "")
	}
	var list []api.Tok
	for rest := src; ; {
		rest = rest[len(separatorForm.FindString(rest)):]
		ahead := src[:len(src)-len(rest)]
		line, col := position(ahead)
		if rest == "" {
			return append(list, api.Tok{Line: line, Col: col}), api.Fail{}
		}
		tok, s, err := definedToken(rest)
		if err != api.OK {
			return fail(err, ahead+s)
		}
		if len(list) == mostTokens {
			return fail(api.ErrCount, ahead)
		}
		tok.Line, tok.Col = line, col
		list = append(list, tok)
		rest = rest[len(s):]
	}
}

// definedQuote is Quote by its definition.
func definedQuote(s string) string {
	return `"` + strings.NewReplacer("\n", `\n`, `"`, `\"`, `\`, `\\`).Replace(s) + `"`
}

// definedPrint is Print by its definition.
func definedPrint(l []api.Tok) string {
	s := ""
	for i, tok := range l {
		if tok.Kind == 0 {
			break
		}
		if i > 0 {
			s += " "
		}
		switch tok.Kind {
		case 1, 4, 5:
			s += tok.Text
		case 2:
			s += strconv.Itoa(tok.Num)
		case 3:
			s += definedQuote(tok.Text)
		}
	}
	return s
}

func name(s string) api.Tok    { return api.Tok{Kind: 1, Text: s} }
func number(n int) api.Tok     { return api.Tok{Kind: 2, Num: n} }
func text(s string) api.Tok    { return api.Tok{Kind: 3, Text: s} }
func keyword(s string) api.Tok { return api.Tok{Kind: 4, Text: s} }
func sign(s string) api.Tok    { return api.Tok{Kind: 5, Text: s} }

// at is a token at a position.
func at(tok api.Tok, line, col int) api.Tok {
	tok.Line, tok.Col = line, col
	return tok
}

// unplaced is the tokens without their positions.
func unplaced(l []api.Tok) []api.Tok {
	var list []api.Tok
	for _, tok := range l {
		list = append(list, at(tok, 0, 0))
	}
	return list
}

// first is the first few tokens, for a message.
func first(l []api.Tok) []api.Tok { return l[:min(len(l), 12)] }

// isText reports whether s is a text by chapter 4.
func isText(s string) bool {
	return len(s) <= mostText && regexp.MustCompile(`\A[ -~\n]*\z`).MatchString(s)
}

// sources are ordinary inputs without an error.
func sources() []string {
	return []string{
		"",
		" ",
		"\n",
		"\t\n \n",
		"say 1;",
		"story \"The Tin Box\" by \"A. N. Other\"\nrelease 3\nmax 10\nstart hall\n",
		"room hall \"Hall\" {\n\tis lit;\n\texit north to cellar; // down the stairs\n}\n",
		"thing box \"tin box\" in hall { words box tin; text \"It is \\\"Tin\\\".\\n\"; }",
		"verb go { line go dir; } on go before { if here = hall and not (noun has open) { say \"No.\"; stop; } }",
		"func f(a, b) { return a.size*(b-1)%7 != 3 or a<=b and a>=2 or a==b; }",
		"let a_1 = 30; // b\n\tsay \"x\\n\\\"y\" <= in",
		"//\n// a \"b\nc//d\n//",
		"a/b / c|d",
		"\"\"\"\"\"\\\\\"\"//\" // \"",
		"0 32767 1 10 7.8 1-2",
		"x1_ y__ in1 in_ i n inn",
		strings.Repeat("( a \n", 2000),
	}
}

func checkAll(t *testing.T, src string, want []api.Tok, wantFail api.Fail) {
	t.Helper()
	got, fail := lex.All(src)
	if fail != wantFail {
		t.Fatalf("All(%.80q) reports %+v, want %+v", src, fail, wantFail)
	}
	if !slices.Equal(got, want) {
		t.Fatalf("All(%.80q) = %+v, want %+v", src, first(got), first(want))
	}
}

// checkTokens checks the tokens of src, apart from their positions and the TokEnd.
func checkTokens(t *testing.T, src string, want ...api.Tok) {
	t.Helper()
	got, fail := lex.All(src)
	if fail != (api.Fail{}) {
		t.Fatalf("All(%.80q) reports %+v", src, fail)
	}
	if want = append(slices.Clone(want), api.Tok{}); !slices.Equal(unplaced(got), want) {
		t.Fatalf("All(%.80q) = %+v, want %+v", src, first(got), first(want))
	}
}

func checkFail(t *testing.T, src string, err api.Errno, line, col int) {
	t.Helper()
	checkAll(t, src, nil, api.Fail{Err: err, Line: line, Col: col})
}

// checkEnd checks how many tokens src has, and the position of its TokEnd.
func checkEnd(t *testing.T, src string, count, line, col int) {
	t.Helper()
	l, fail := lex.All(src)
	if fail != (api.Fail{}) || len(l) != count+1 {
		t.Fatalf("All(%.80q) reports %+v and has %d tokens, want %d", src, fail, len(l), count+1)
	}
	if end := l[count]; end != (api.Tok{Line: line, Col: col}) {
		t.Fatalf("All(%.80q) ends with %+v, want (%d, %d)", src, end, line, col)
	}
}

func checkDefined(t *testing.T, src string) {
	t.Helper()
	want, wantFail := definedAll(src)
	checkAll(t, src, want, wantFail)
}

func checkQuote(t *testing.T, s, want string) {
	t.Helper()
	if got := lex.Quote(s); got != want {
		t.Fatalf("Quote(%.80q) = %.80q, want %.80q", s, got, want)
	}
}

func checkPrint(t *testing.T, l []api.Tok, want string) {
	t.Helper()
	if got := lex.Print(l); got != want {
		t.Fatalf("Print(%+v) = %.80q, want %.80q", first(l), got, want)
	}
}

// checkPrintedAgain checks that what is printed of the tokens of src has the same tokens.
func checkPrintedAgain(t *testing.T, src string) {
	t.Helper()
	l, fail := lex.All(src)
	if fail != (api.Fail{}) {
		t.Fatalf("All(%.80q) reports %+v", src, fail)
	}
	printed := lex.Print(l)
	if len(printed) > mostBytes {
		checkFail(t, printed, api.ErrLong, 1, 1)
		return
	}
	checkTokens(t, printed, unplaced(l[:len(l)-1])...)
	again, _ := lex.All(printed)
	checkPrint(t, again, printed)
}

func TestPromise9_1Examples(t *testing.T) {
	checkAll(t, "say 1;", []api.Tok{
		{Kind: api.TokWord, Text: "say", Line: 1, Col: 1},
		{Kind: api.TokNumber, Num: 1, Line: 1, Col: 5},
		{Kind: api.TokSign, Text: ";", Line: 1, Col: 6},
		{Kind: api.TokEnd, Line: 1, Col: 7},
	}, api.Fail{})
	checkFail(t, "007", api.ErrForm, 1, 1)
	checkFail(t, "A", api.ErrText, 1, 1)
	checkFail(t, `"`, api.ErrShort, 1, 1)
	if got := lex.Dir("in"); got != 11 {
		t.Fatalf("Dir(in) = %d", got)
	}
}

func TestPromise9_1Keywords(t *testing.T) {
	list := keywords()
	if len(list) != 72 {
		t.Fatalf("the test has %d keywords", len(list))
	}
	for _, s := range list {
		if !lex.Key(s) {
			t.Fatalf("Key(%q) is false", s)
		}
		checkTokens(t, s, keyword(s))
		near := []string{s + "s", s + "_", s + "1", s + " ", s + "\n", " " + s, "_" + s, "a" + s, s + s, s[1:], s[:len(s)-1], strings.ToUpper(s), strings.ToUpper(s[:1]) + s[1:], s + "\x00", `"` + s + `"`}
		for _, other := range near {
			if got, want := lex.Key(other), slices.Contains(list, other); got != want {
				t.Fatalf("Key(%q) = %v", other, got)
			}
		}
	}
	for _, s := range []string{"", " ", "in out", "lit", "open", "box", "hidden", "self", "go", "take", "true", "north east", "north_east", "for", "north\xff", "words adjs"} {
		if lex.Key(s) {
			t.Fatalf("Key(%q) is true", s)
		}
	}
}

func TestPromise9_1KeywordsOfUpToThreeLetters(t *testing.T) {
	list := keywords()
	check := func(s string) {
		if got, want := lex.Key(s), slices.Contains(list, s); got != want {
			t.Fatalf("Key(%q) = %v", s, got)
		}
		if got, want := lex.Dir(s), 1+slices.Index(directions(), s); got != want {
			t.Fatalf("Dir(%q) = %d, want %d", s, got, want)
		}
	}
	for a := 'a'; a <= 'z'; a++ {
		check(string(a))
		for b := 'a'; b <= 'z'; b++ {
			check(string(a) + string(b))
			for c := 'a'; c <= 'z'; c++ {
				check(string(a) + string(b) + string(c))
			}
		}
	}
}

func TestPromise9_1Directions(t *testing.T) {
	for i, s := range directions() {
		if got := lex.Dir(s); got != i+1 {
			t.Fatalf("Dir(%q) = %d, want %d", s, got, i+1)
		}
		if !lex.Key(s) {
			t.Fatalf("Key(%q) is false", s)
		}
		for _, other := range []string{s + "s", " " + s, s + " ", strings.ToUpper(s), s[1:], s[:len(s)-1], s[:1]} {
			if got := lex.Dir(other); got != 0 && directions()[got-1] != other {
				t.Fatalf("Dir(%q) = %d", other, got)
			}
		}
	}
	for _, s := range strings.Fields(keywordList) {
		if got := lex.Dir(s); got != 0 && s != "in" {
			t.Fatalf("Dir(%q) = %d", s, got)
		}
	}
	for _, s := range []string{"", "n", "inside", "north east", "north_east", "dir", "In", "upp", "1"} {
		if got := lex.Dir(s); got != 0 {
			t.Fatalf("Dir(%q) = %d", s, got)
		}
	}
}

func TestPromise9_1TokensOfEachKind(t *testing.T) {
	checkTokens(t, "")
	checkTokens(t, "lamp", name("lamp"))
	checkTokens(t, "a b2 c_3 d__", name("a"), name("b2"), name("c_3"), name("d__"))
	checkTokens(t, "in inn in_ in1 i n", keyword("in"), name("inn"), name("in_"), name("in1"), name("i"), name("n"))
	checkTokens(t, "0 7 10 32767", number(0), number(7), number(10), number(32767))
	checkTokens(t, `"" "a" "A b" "say 1;" "//" "'{}'"`, text(""), text("a"), text("A b"), text("say 1;"), text("//"), text("'{}'"))
	checkTokens(t, `"\n" "\"" "\\" "\\n" "a\nb\n" "\"\\\n" "nn\nn"`, text("\n"), text(`"`), text(`\`), text(`\n`), text("a\nb\n"), text("\"\\\n"), text("nn\nn"))
	checkTokens(t, "say in north", keyword("say"), keyword("in"), keyword("north"))
	checkTokens(t, "box.size=-3;", name("box"), sign("."), name("size"), sign("="), sign("-"), number(3), sign(";"))
	checkTokens(t, `a"b"c"d"1"e"`, name("a"), text("b"), name("c"), text("d"), number(1), text("e"))
	checkTokens(t, "1.2.3 f(1)2", number(1), sign("."), number(2), sign("."), number(3), name("f"), sign("("), number(1), sign(")"), number(2))
}

func TestPromise9_1IsAsDefined(t *testing.T) {
	for _, src := range sources() {
		if _, fail := definedAll(src); fail != (api.Fail{}) {
			t.Fatalf("the test has the source %.80q", src)
		}
		checkDefined(t, src)
		for _, c := range []string{"\x01", "A", `"`, `"\`, `"\q"`, "00", "1a", "99999", "\xff", "\r", "// \x7f"} {
			checkDefined(t, src+"\n"+c)
			checkDefined(t, c+"\n"+src)
			for i := range min(len(src), 80) {
				checkDefined(t, src[:i]+c+src[i:])
			}
		}
	}
}

func TestPromise9_1Signs(t *testing.T) {
	for _, s := range signs() {
		checkTokens(t, s, sign(s))
		checkTokens(t, s+" a", sign(s), name("a"))
		checkTokens(t, "a"+s+"\n1", name("a"), sign(s), number(1))
		checkTokens(t, s+`"a"`, sign(s), text("a"))
		for _, other := range signs() {
			checkTokens(t, s+" "+other, sign(s), sign(other))
			checkTokens(t, s+"\n"+other, sign(s), sign(other))
			checkDefined(t, s+other)
		}
	}
}

func TestPromise9_1TheLongestSignThatFits(t *testing.T) {
	checkTokens(t, "==", sign("=="))
	checkTokens(t, "= =", sign("="), sign("="))
	checkTokens(t, "===", sign("=="), sign("="))
	checkTokens(t, "====", sign("=="), sign("=="))
	checkTokens(t, "!==", sign("!="), sign("="))
	checkTokens(t, "<==", sign("<="), sign("="))
	checkTokens(t, ">==", sign(">="), sign("="))
	checkTokens(t, "=<", sign("="), sign("<"))
	checkTokens(t, "=>", sign("="), sign(">"))
	checkTokens(t, "<>", sign("<"), sign(">"))
	checkTokens(t, "<<=", sign("<"), sign("<="))
	checkTokens(t, "<-1", sign("<"), sign("-"), number(1))
	checkTokens(t, "+= ++ -- || ..", sign("+"), sign("="), sign("+"), sign("+"), sign("-"), sign("-"), sign("|"), sign("|"), sign("."), sign("."))
	checkTokens(t, "/=/ /", sign("/"), sign("="), sign("/"), sign("/"))
}

func TestPromise9_1AnExclamationMarkAloneBeginsNoToken(t *testing.T) {
	checkTokens(t, "!=", sign("!="))
	checkFail(t, "!", api.ErrText, 1, 1)
	checkFail(t, "! =", api.ErrText, 1, 1)
	checkFail(t, "!\n=", api.ErrText, 1, 1)
	checkFail(t, "a !a", api.ErrText, 1, 3)
	checkFail(t, "!!=", api.ErrText, 1, 1)
	checkFail(t, "=!", api.ErrText, 1, 2)
	checkFail(t, "!//=", api.ErrText, 1, 1)
}

func TestPromise9_1EveryByteEverywhere(t *testing.T) {
	ahead := []string{"", " ", "\n\t", "a", "in", "1", "0", "=", "!", "/", "//", "// a", `"`, `"a`, `"\`, `"\\`, `""`, "a\n//", "(", "\"\\n"}
	behind := []string{"", " ", "\n", "a", "1", "=", "/", `"`, `a"`, "\n\"", "\\\""}
	for c := range 256 {
		for _, a := range ahead {
			for _, b := range behind {
				checkDefined(t, a+string([]byte{byte(c)})+b)
			}
		}
	}
}

func TestPromise9_1BytesThatAreNotAllowed(t *testing.T) {
	for c := range 256 {
		allowed := c >= 32 && c <= 126 || c == '\n' || c == '\t'
		s := string([]byte{byte(c)})
		if allowed {
			checkEnd(t, "a // "+s+"\n", 1, 2+strings.Count(s, "\n"), 1)
			continue
		}
		checkFail(t, s, api.ErrText, 1, 1)
		checkFail(t, "a"+s, api.ErrText, 1, 2)
		checkFail(t, "say 1;\n\t"+s+"b", api.ErrText, 2, 2)
		checkFail(t, "// a"+s+"b", api.ErrText, 1, 5)
		checkFail(t, "//"+s, api.ErrText, 1, 3)
		checkFail(t, "a\n //\t"+s+"\n", api.ErrText, 2, 5)
		checkFail(t, `"a`+s+`b"`, api.ErrText, 1, 3)
		checkFail(t, "1"+s, api.ErrText, 1, 2)
	}
}

func TestPromise9_1BytesThatBeginNoToken(t *testing.T) {
	begins := "abcdefghijklmnopqrstuvwxyz0123456789\"(){},;.|/+-*%=<>"
	for c := byte('!'); c <= '~'; c++ {
		s := string(c)
		if strings.Contains(begins, s) {
			if _, fail := lex.All(s); fail.Err == api.ErrText {
				t.Fatalf("%q begins no token", s)
			}
			continue
		}
		checkFail(t, s, api.ErrText, 1, 1)
		checkFail(t, "say "+s+"a", api.ErrText, 1, 5)
		checkFail(t, ";"+s+"\n"+s, api.ErrText, 1, 2)
		checkTokens(t, "//"+s)
	}
}

func TestPromise9_1CapitalLettersBeginNoToken(t *testing.T) {
	checkFail(t, "A", api.ErrText, 1, 1)
	checkFail(t, "a A", api.ErrText, 1, 3)
	checkFail(t, "aB", api.ErrText, 1, 2)
	checkFail(t, "sayX", api.ErrText, 1, 4)
	checkFail(t, "a_Z", api.ErrText, 1, 3)
	checkTokens(t, `"A"`, text("A"))
	checkTokens(t, "// A\na", name("a"))
}

func TestPromise9_1Separators(t *testing.T) {
	for _, s := range []string{" ", "\t", "\n", "  ", " \t\n\n\t ", "// b\n", "//\n", " // b c \"d\n\t", "////\n", "//a\n//b\n", "// \\\n", "//\t\n"} {
		checkTokens(t, "a"+s+"b", name("a"), name("b"))
		checkTokens(t, s+"a"+s, name("a"))
		checkTokens(t, "1"+s+"2", number(1), number(2))
		checkTokens(t, "="+s+"=", sign("="), sign("="))
		checkTokens(t, `"a"`+s+`"b"`, text("a"), text("b"))
		checkTokens(t, s)
	}
	checkTokens(t, "say\tlet", keyword("say"), keyword("let"))
	checkTokens(t, "say_let", name("say_let"))
}

func TestPromise9_1Comments(t *testing.T) {
	checkTokens(t, "//")
	checkTokens(t, "// say 1;")
	checkTokens(t, "a//", name("a"))
	checkTokens(t, "a// b", name("a"))
	checkTokens(t, "a//b\nc", name("a"), name("c"))
	checkTokens(t, "say//say\nsay", keyword("say"), keyword("say"))
	checkTokens(t, "1//a", number(1))
	checkTokens(t, "=//=\n=", sign("="), sign("="))
	checkTokens(t, `"a"//"`, text("a"))
	checkTokens(t, "/ // /\n/", sign("/"), sign("/"))
	checkTokens(t, "///")
	checkTokens(t, "a / / b", name("a"), sign("/"), sign("/"), name("b"))
	checkTokens(t, `"//" a`, text("//"), name("a"))
	checkFail(t, "// a\r\nb", api.ErrText, 1, 5)
	checkFail(t, "// \u00e4", api.ErrText, 1, 4)
}

func TestPromise9_1Positions(t *testing.T) {
	checkAll(t, "\ta  bc\n\n  =\t==\"a\\n\"1 // c\n in", []api.Tok{
		at(name("a"), 1, 2), at(name("bc"), 1, 5),
		at(sign("="), 3, 3), at(sign("=="), 3, 5), at(text("a\n"), 3, 7), at(number(1), 3, 12),
		at(keyword("in"), 4, 2), at(api.Tok{}, 4, 4),
	}, api.Fail{})
	checkAll(t, "a// b\n//\nc", []api.Tok{at(name("a"), 1, 1), at(name("c"), 3, 1), at(api.Tok{}, 3, 2)}, api.Fail{})
	checkAll(t, "//\t\n\t\tx", []api.Tok{at(name("x"), 2, 3), at(api.Tok{}, 2, 4)}, api.Fail{})
}

func TestPromise9_1TheEndIsBehindTheLastByte(t *testing.T) {
	checkEnd(t, "", 0, 1, 1)
	checkEnd(t, " ", 0, 1, 2)
	checkEnd(t, "\t\t", 0, 1, 3)
	checkEnd(t, "\n", 0, 2, 1)
	checkEnd(t, "a", 1, 1, 2)
	checkEnd(t, "a \n", 1, 2, 1)
	checkEnd(t, "a\n\n\t", 1, 3, 2)
	checkEnd(t, "a // bc", 1, 1, 8)
	checkEnd(t, "a // bc\n", 1, 2, 1)
	checkEnd(t, "//", 0, 1, 3)
	checkEnd(t, `"\n"`, 1, 1, 5)
	checkEnd(t, strings.Repeat("\n", mostBytes), 0, 65537, 1)
	checkEnd(t, strings.Repeat(" ", mostBytes), 0, 1, 65537)
}

func TestPromise9_1PositionsOfErrors(t *testing.T) {
	for _, ahead := range []string{"", "a ", "\t", "\n", "say 1;\n\t", "// c\n", "a // c\n  ", "\"\\n\" ", "\n\n\n\t\t"} {
		line, col := position(ahead)
		checkFail(t, ahead+"A", api.ErrText, line, col)
		checkFail(t, ahead+"\x00", api.ErrText, line, col)
		checkFail(t, ahead+"//\xff", api.ErrText, line, col+2)
		checkFail(t, ahead+"\"\t\"", api.ErrText, line, col+1)
		checkFail(t, ahead+`"abc\q"`, api.ErrForm, line, col+4)
		checkFail(t, ahead+`"abc`, api.ErrShort, line, col)
		checkFail(t, ahead+"\"abc\n\"", api.ErrShort, line, col)
		checkFail(t, ahead+"01", api.ErrForm, line, col)
		checkFail(t, ahead+"12a", api.ErrForm, line, col)
		checkFail(t, ahead+"40000", api.ErrRange, line, col)
		checkFail(t, ahead+strings.Repeat("a", 25), api.ErrName, line, col)
		checkFail(t, ahead+`"`+strings.Repeat("a", 1025)+`"`, api.ErrLong, line, col)
	}
}

func TestPromise9_1LengthOfASource(t *testing.T) {
	checkEnd(t, strings.Repeat("a\n", mostBytes/8), mostBytes/8, mostBytes/8+1, 1)
	for _, unit := range []string{" ", "\n", "\t", "/", "// a \n"} {
		s := strings.Repeat(unit, mostBytes+1)
		if _, fail := lex.All(s[:mostBytes]); fail != (api.Fail{}) {
			t.Fatalf("%d bytes of %q report %+v", mostBytes, unit, fail)
		}
		checkFail(t, s[:mostBytes+1], api.ErrLong, 1, 1)
	}
	checkFail(t, strings.Repeat(" ", mostBytes-1)+"A", api.ErrText, 1, mostBytes)
	for _, first := range []string{"A", "\x00", `"`, `"\q"`, "007", "99999", "1a", "a"} {
		checkFail(t, first+strings.Repeat("\n", mostBytes+1-len(first)), api.ErrLong, 1, 1)
	}
	checkFail(t, strings.Repeat(";", mostBytes+1), api.ErrLong, 1, 1)
	checkFail(t, strings.Repeat(" ", 1<<20), api.ErrLong, 1, 1)
}

func TestPromise9_1LengthOfAName(t *testing.T) {
	for _, c := range []string{"a", "a1", "z_", "say", "north", "in_"} {
		s := strings.Repeat(c, mostName+1)
		checkTokens(t, s[:mostName-1], name(s[:mostName-1]))
		checkTokens(t, s[:mostName], name(s[:mostName]))
		checkTokens(t, s[:mostName]+"=", name(s[:mostName]), sign("="))
		checkFail(t, s[:mostName+1], api.ErrName, 1, 1)
		checkFail(t, "\n "+s[:mostName+1]+";", api.ErrName, 2, 2)
		checkFail(t, strings.Repeat(c, 1000), api.ErrName, 1, 1)
	}
	checkFail(t, strings.Repeat("a", mostBytes), api.ErrName, 1, 1)
}

func TestPromise9_1NumbersInRange(t *testing.T) {
	for n := 0; n <= mostNumber; n++ {
		checkTokens(t, strconv.Itoa(n), number(n))
	}
	for n := mostNumber + 1; n < 3*mostNumber; n++ {
		checkFail(t, strconv.Itoa(n), api.ErrRange, 1, 1)
	}
	for _, s := range []string{"65536", "65537", "100000", "2147483648", "4294967296", "4294967297", "9223372036854775807", "9223372036854775808", "18446744073709551615", "18446744073709551616", "18446744073709551617", "340282366920938463463374607431768211457"} {
		checkFail(t, s, api.ErrRange, 1, 1)
		checkFail(t, " "+s+";", api.ErrRange, 1, 2)
	}
	for _, count := range []int{20, 100, 1024, 1025, mostBytes} {
		checkFail(t, strings.Repeat("9", count), api.ErrRange, 1, 1)
		checkFail(t, "1"+strings.Repeat("0", count-1), api.ErrRange, 1, 1)
		checkFail(t, strings.Repeat("0", count), api.ErrForm, 1, 1)
		checkFail(t, strings.Repeat("0", count-1)+"1", api.ErrForm, 1, 1)
	}
}

func TestPromise9_1FormOfNumbers(t *testing.T) {
	for _, s := range []string{"00", "01", "007", "000", "032767", "032768", "099999", "1a", "1z", "1A", "1Z", "1_", "0a", "0A", "0_", "0x10", "32767a", "32768a", "99999Z", "007a", "123e5", "1_000", "1in", "1say", "00_"} {
		checkFail(t, s, api.ErrForm, 1, 1)
		checkFail(t, "( "+s+")", api.ErrForm, 1, 3)
	}
	for _, c := range "!#$&':?@[\\]^`~\r\x00\x7f" {
		checkFail(t, "1"+string(c), api.ErrText, 1, 2)
	}
	for _, c := range []string{"(", ")", "{", "}", ",", ";", ".", "|", "+", "-", "*", "%", "=", "<", ">", "/"} {
		checkTokens(t, "1"+c, number(1), sign(c))
	}
	checkTokens(t, "-0", sign("-"), number(0))
	checkTokens(t, "-1", sign("-"), number(1))
	checkTokens(t, "a1 a01 a_1", name("a1"), name("a01"), name("a_1"))
}

func TestPromise9_1LengthOfAText(t *testing.T) {
	for _, c := range []string{"a", `\n`, `\"`, `\\`, " ", "~", `\na`} {
		content := strings.NewReplacer(`\n`, "\n", `\"`, `"`, `\\`, `\`).Replace(c)
		count := mostText / len(content)
		checkTokens(t, `"`+strings.Repeat(c, count)+`"`, text(strings.Repeat(content, count)))
		checkFail(t, `"`+strings.Repeat(c, count)+`a"`, api.ErrLong, 1, 1)
		checkFail(t, ` "a`+strings.Repeat(c, count)+`";`, api.ErrLong, 1, 2)
		checkFail(t, `"`+strings.Repeat(c, 20*count)+`"`, api.ErrLong, 1, 1)
	}
	checkFail(t, `"`+strings.Repeat("a", mostBytes-2)+`"`, api.ErrLong, 1, 1)
	checkFail(t, `"`+strings.Repeat(`\n`, mostBytes/2-1)+`"`, api.ErrLong, 1, 1)
}

func TestPromise9_1TextsThatDoNotEnd(t *testing.T) {
	for _, s := range []string{`"`, `"a`, `"a b`, `"\"`, `"\\\"`, `"\n`, `"//`, `"a // b`, `"` + strings.Repeat("a", 2000)} {
		checkFail(t, s, api.ErrShort, 1, 1)
		checkFail(t, "\n ="+s+"\n", api.ErrShort, 2, 3)
		checkFail(t, `""`+s, api.ErrShort, 1, 3)
	}
	checkFail(t, `"""`, api.ErrShort, 1, 3)
	checkFail(t, "\"a\nb\"", api.ErrShort, 1, 1)
	checkFail(t, "\"\n\"", api.ErrShort, 1, 1)
	checkFail(t, "\"a\"\n\"b", api.ErrShort, 2, 1)
	checkFail(t, `"a" "b`, api.ErrShort, 1, 5)
	checkFail(t, `"a"b"`, api.ErrShort, 1, 5)
	checkFail(t, `"`+strings.Repeat("a", mostBytes-1), api.ErrShort, 1, 1)
}

func TestPromise9_1Backslashes(t *testing.T) {
	for c := range 256 {
		s := string([]byte{byte(c)})
		if s == "n" || s == `"` || s == `\` {
			checkTokens(t, `"a\`+s+`b"`, text("a"+strings.ReplaceAll(s, "n", "\n")+"b"))
			continue
		}
		checkFail(t, `"\`+s+`"`, api.ErrForm, 1, 2)
		checkFail(t, `"a\\b\`+s+`c"`, api.ErrForm, 1, 6)
		checkFail(t, `"\`+s, api.ErrForm, 1, 2)
	}
	checkFail(t, `"\`, api.ErrForm, 1, 2)
	checkFail(t, `"ab\`, api.ErrForm, 1, 4)
	checkFail(t, `"\\\`, api.ErrForm, 1, 4)
	checkFail(t, "a\n\"b\\\n\"", api.ErrForm, 2, 3)
	checkFail(t, `"\N"`, api.ErrForm, 1, 2)
	checkFail(t, `\n`, api.ErrText, 1, 1)
	checkFail(t, `\`, api.ErrText, 1, 1)
	checkTokens(t, `// \q \`)
}

func TestPromise9_1TabsInTexts(t *testing.T) {
	checkFail(t, "\"\t\"", api.ErrText, 1, 2)
	checkFail(t, "\t\"a\t", api.ErrText, 1, 4)
	checkFail(t, "\"\\n\\\"\t\"", api.ErrText, 1, 6)
	checkTokens(t, "\"a\"\t\"b\"", text("a"), text("b"))
}

func TestPromise9_1NumberOfTokens(t *testing.T) {
	checkEnd(t, strings.Repeat("; ", mostTokens), mostTokens, 1, 2*mostTokens+1)
	checkEnd(t, strings.Repeat(";", mostTokens)+"// c\n", mostTokens, 2, 1)
	for _, s := range []string{";", "a", "in", "0", `""`, "==", "32767", strings.Repeat("a", 24)} {
		checkFail(t, strings.Repeat(";", mostTokens)+s, api.ErrCount, 1, mostTokens+1)
		checkFail(t, strings.Repeat(";", mostTokens)+"\n //\n "+s+" a", api.ErrCount, 3, 2)
	}
	for _, s := range []string{"a", "1", "==", `""`} {
		src := strings.Repeat(s+" ", mostTokens)
		checkEnd(t, src, mostTokens, 1, len(src)+1)
		checkFail(t, src+s, api.ErrCount, 1, len(src)+1)
	}
}

func TestPromise9_1TheFirstErrorOfAToken(t *testing.T) {
	full := strings.Repeat(";", mostTokens)
	col := mostTokens + 1
	checkFail(t, full+"A", api.ErrText, 1, col)
	checkFail(t, full+"\x00", api.ErrText, 1, col)
	checkFail(t, full+"//\x00", api.ErrText, 1, col+2)
	checkFail(t, full+"007", api.ErrForm, 1, col)
	checkFail(t, full+"1a", api.ErrForm, 1, col)
	checkFail(t, full+"40000", api.ErrRange, 1, col)
	checkFail(t, full+strings.Repeat("a", 25), api.ErrName, 1, col)
	checkFail(t, full+`"`+strings.Repeat("a", 1025)+`"`, api.ErrLong, 1, col)
	checkFail(t, full+`"a`, api.ErrShort, 1, col)
	checkFail(t, full+`"a\q"`, api.ErrForm, 1, col+2)
	checkFail(t, full+"\"a\t\"", api.ErrText, 1, col+2)
	long := `"` + strings.Repeat("a", 1025)
	checkFail(t, long, api.ErrShort, 1, 1)
	checkFail(t, long+"\t\"", api.ErrText, 1, 1027)
	checkFail(t, long+`\q"`, api.ErrForm, 1, 1027)
	checkFail(t, long+`\`, api.ErrForm, 1, 1027)
	checkFail(t, long+"\n\"", api.ErrShort, 1, 1)
	checkFail(t, strings.Repeat("9", 30)+"a", api.ErrForm, 1, 1)
	checkFail(t, "0"+strings.Repeat("9", 30), api.ErrForm, 1, 1)
}

func TestPromise9_1TheFirstErrorOfASource(t *testing.T) {
	long := strings.Repeat("a", 25)
	checkFail(t, "A 007", api.ErrText, 1, 1)
	checkFail(t, "007 A", api.ErrForm, 1, 1)
	checkFail(t, "007A", api.ErrForm, 1, 1)
	checkFail(t, "007\x00", api.ErrForm, 1, 1)
	checkFail(t, "40000\x00", api.ErrRange, 1, 1)
	checkFail(t, "40000 1a", api.ErrRange, 1, 1)
	checkFail(t, long+"A", api.ErrName, 1, 1)
	checkFail(t, long+"\xff", api.ErrName, 1, 1)
	checkFail(t, "1 "+long+" 40000", api.ErrName, 1, 3)
	checkFail(t, "\"a\x00", api.ErrText, 1, 3)
	checkFail(t, "\"a\tb\x00\"", api.ErrText, 1, 3)
	checkFail(t, "\"a\\q\x00\"", api.ErrForm, 1, 3)
	checkFail(t, "\"a\x00\\q\"", api.ErrText, 1, 3)
	checkFail(t, "\"a\\\x00\"", api.ErrForm, 1, 3)
	checkFail(t, "\"a\\\t\"", api.ErrForm, 1, 3)
	checkFail(t, "\"a\n\x00", api.ErrShort, 1, 1)
	checkFail(t, "\"a\nA", api.ErrShort, 1, 1)
	checkFail(t, "\"a\n\"b", api.ErrShort, 1, 1)
	checkFail(t, "// \x00 \x01", api.ErrText, 1, 4)
	checkFail(t, "// \x00\nA", api.ErrText, 1, 4)
	checkFail(t, "\nA\n007", api.ErrText, 2, 1)
	checkFail(t, strings.Repeat(";", mostTokens)+"; A", api.ErrCount, 1, mostTokens+1)
}

func TestPromise9_1AllSourcesOfUpToFourUnits(t *testing.T) {
	units := []string{"a", "1", "0", `"`, `\`, "n", "=", "!", "/", "\n", "\t", "A", "\x00", " "}
	var check func(src string, more int)
	check = func(src string, more int) {
		checkDefined(t, src)
		if more == 0 {
			return
		}
		for _, unit := range units {
			check(src+unit, more-1)
		}
	}
	check("", 4)
}

func TestPromise9_2QuoteExamples(t *testing.T) {
	checkQuote(t, "", `""`)
	checkQuote(t, "a", `"a"`)
	checkQuote(t, "A tin box.", `"A tin box."`)
	checkQuote(t, "a\n\"\\", `"a\n\"\\"`)
	checkQuote(t, `\n`, `"\\n"`)
	checkQuote(t, `"`, `"\""`)
	checkQuote(t, `""`, `"\"\""`)
	checkQuote(t, "\n\n", `"\n\n"`)
	checkQuote(t, "//", `"//"`)
}

func TestPromise9_2QuoteAcceptsAnyString(t *testing.T) {
	for c := range 256 {
		s := string([]byte{byte(c)})
		want := s
		switch s {
		case "\n":
			want = `\n`
		case `"`, `\`:
			want = `\` + s
		}
		checkQuote(t, s, `"`+want+`"`)
		checkQuote(t, "a"+s+s+"b", `"a`+want+want+`b"`)
	}
	for _, s := range []string{"\t", "\r\n", "\u00e4\u20ac", "\xff\xfe", "\x00", strings.Repeat("a", 1025), strings.Repeat("\n", 1<<17)} {
		checkQuote(t, s, definedQuote(s))
	}
}

func TestPromise9_2PrintExamples(t *testing.T) {
	checkPrint(t, nil, "")
	checkPrint(t, []api.Tok{}, "")
	checkPrint(t, []api.Tok{{}}, "")
	checkPrint(t, []api.Tok{name("a")}, "a")
	checkPrint(t, []api.Tok{keyword("say"), number(1), sign(";"), {}}, "say 1 ;")
	checkPrint(t, []api.Tok{text("a\n\"\\"), sign("=="), text("")}, `"a\n\"\\" == ""`)
	checkPrint(t, []api.Tok{at(name("a"), 7, 9), at(name("b"), 1, 1), at(api.Tok{}, 3, 3)}, "a b")
}

func TestPromise9_2PrintEndsAtTheFirstTokEnd(t *testing.T) {
	checkPrint(t, []api.Tok{name("a"), {}, name("b")}, "a")
	checkPrint(t, []api.Tok{{}, name("a")}, "")
	checkPrint(t, []api.Tok{name("a"), name("b"), {}, {}, name("c"), {}}, "a b")
	checkPrint(t, []api.Tok{name("a"), {Kind: api.TokEnd, Text: "x", Num: 3, Line: 1, Col: 2}, name("b")}, "a")
	checkPrint(t, []api.Tok{name("a"), name("b")}, "a b")
}

func TestPromise9_2PrintOfNumbers(t *testing.T) {
	for _, n := range []int{0, 1, 32767, 32768, -1, -32768, 1<<63 - 1, -1 << 63} {
		checkPrint(t, []api.Tok{number(n)}, strconv.Itoa(n))
		checkPrint(t, []api.Tok{sign("-"), {Kind: 2, Num: n, Text: "x"}, sign(";")}, "- "+strconv.Itoa(n)+" ;")
	}
}

func TestPromise9_2PrintAcceptsAnyTokens(t *testing.T) {
	for _, s := range []string{"", " ", "a b", "\x00\xff", "\n", `"`, "SAY", strings.Repeat("a", 2000)} {
		for _, kind := range []int{api.TokName, api.TokWord, api.TokSign} {
			checkPrint(t, []api.Tok{{Kind: kind, Text: s, Num: 5}}, s)
			checkPrint(t, []api.Tok{number(1), {Kind: kind, Text: s, Num: 5}, number(2)}, "1 "+s+" 2")
		}
		checkPrint(t, []api.Tok{{Kind: api.TokText, Text: s, Num: 5}}, definedQuote(s))
	}
}

func TestPromise9_2PrintOfAnotherKind(t *testing.T) {
	for _, kind := range []int{-1, 6, 7, 256, 1 << 40, -1 << 63} {
		other := api.Tok{Kind: kind, Text: "x", Num: 5}
		checkPrint(t, []api.Tok{other}, "")
		checkPrint(t, []api.Tok{other, {}}, "")
		// Each token is separated from the next one, also one of which nothing is printed.
		checkPrint(t, []api.Tok{name("a"), other, name("b")}, "a  b")
		checkPrint(t, []api.Tok{other, name("a")}, " a")
		checkPrint(t, []api.Tok{name("a"), other}, "a ")
	}
}

func TestPromise9_3TokensOfPrintedTokens(t *testing.T) {
	for _, src := range sources() {
		checkPrintedAgain(t, src)
	}
	for _, s := range slices.Concat(keywords(), signs()) {
		for _, other := range slices.Concat(signs(), []string{"in", "a", "1", `""`}) {
			checkPrintedAgain(t, s+" "+other)
			checkPrintedAgain(t, other+" "+s+" "+other)
		}
	}
}

func TestPromise9_3TokensOfGeneratedSources(t *testing.T) {
	units := slices.Concat(keywords(), signs(), []string{"a", "b_1", "0", "1", "32767", `""`, `"a b"`, `"\n\"\\"`, "// c\n", "\n", "\t", strings.Repeat("z", 24)})
	seed := uint32(1)
	below := func(n int) int {
		seed = seed*1664525 + 1013904223
		return int(seed>>16) % n
	}
	for range 2000 {
		src := ""
		for range below(40) {
			src += units[below(len(units))] + []string{" ", "\n", "\t ", " //\n"}[below(4)]
		}
		checkDefined(t, src)
		checkPrintedAgain(t, src)
	}
}

func TestPromise9_3TheLongestPrintedSources(t *testing.T) {
	checkPrintedAgain(t, strings.Repeat("(", mostTokens))
	checkPrintedAgain(t, strings.Repeat("abc ", mostTokens))
	checkPrintedAgain(t, strings.Repeat("ab()", mostTokens/4))
	checkPrintedAgain(t, strings.Repeat(`"`+strings.Repeat(`\n`, mostText)+`" `, 31))
}

func TestPromise9_3QuoteOfATextIsOneToken(t *testing.T) {
	list := []string{"", "a", "\n", `"`, `\`, `\n`, `\\n"`, "//", "say 1;", " ", "A\nB", "\n\n\"\"\\\\"}
	for c := byte(' '); c <= '~'; c++ {
		list = append(list, string(c), "a"+string(c)+"b", `\`+string(c), string(c)+"\n")
	}
	for _, unit := range []string{"a", "\n", `"`, `\`, "ab", "\"\n"} {
		list = append(list, strings.Repeat(unit, mostText/len(unit)))
	}
	for _, s := range list {
		if !isText(s) {
			t.Fatalf("the test has %.80q, which is no text", s)
		}
		quoted := lex.Quote(s)
		checkAll(t, quoted, []api.Tok{at(text(s), 1, 1), at(api.Tok{}, 1, len(quoted)+1)}, api.Fail{})
		checkPrint(t, []api.Tok{text(s)}, quoted)
	}
}

func TestPromise9_3QuoteOfWhatIsNoText(t *testing.T) {
	checkFail(t, lex.Quote("a\tb"), api.ErrText, 1, 3)
	checkFail(t, lex.Quote("\x7f"), api.ErrText, 1, 2)
	checkFail(t, lex.Quote("\n\xff"), api.ErrText, 1, 4)
	checkFail(t, lex.Quote(strings.Repeat("\n", mostText+1)), api.ErrLong, 1, 1)
}

// R3: results share no memory with one another, and Print leaves its argument as it is.
func TestResultsAreNewMemory(t *testing.T) {
	for _, src := range sources() {
		changed, _ := lex.All(src)
		second, _ := lex.All(src)
		kept := slices.Clone(second)
		for i := range changed {
			changed[i] = api.Tok{Kind: 9, Text: "x", Num: 9, Line: 9, Col: 9}
		}
		if !slices.Equal(second, kept) {
			t.Fatalf("All(%.80q) has two results that share memory", src)
		}
		checkDefined(t, src)
		lex.Print(second)
		if !slices.Equal(second, kept) {
			t.Fatalf("Print changes the tokens of %.80q", src)
		}
	}
	roomy := append(make([]api.Tok, 0, 8), name("a"), name("b"))
	checkPrint(t, roomy, "a b")
	if slices.ContainsFunc(roomy[2:8], func(tok api.Tok) bool { return tok != api.Tok{} }) {
		t.Fatal("Print writes behind its argument")
	}
}

// P1 and R4: the same arguments give the same results, whatever was called in between.
func TestCallsRememberNothing(t *testing.T) {
	list := append(sources(), "A", "\"a", "007", strings.Repeat("; ", mostTokens+1), strings.Repeat(" ", mostBytes+1))
	ask := func(src string) (l []api.Tok, fail api.Fail, printed, quoted string, key bool) {
		l, fail = lex.All(src)
		return l, fail, lex.Print(l), lex.Quote(src), lex.Key(src)
	}
	for range 2 {
		for _, src := range slices.Backward(list) {
			want, wantFail := definedAll(src)
			l, fail, printed, quoted, key := ask(src)
			if !slices.Equal(l, want) || fail != wantFail || printed != definedPrint(want) || quoted != definedQuote(src) || key {
				t.Fatalf("%.80q: %+v %+v", src, first(l), fail)
			}
		}
	}
}

// FuzzPromise9_1 checks any source against the definition.
func FuzzPromise9_1(f *testing.F) {
	for _, src := range sources() {
		f.Add(src)
	}
	for _, src := range []string{"A", "\"a\\q\"", "\"a\tb\"", "\"a\n\"", "007", "1a", "40000", "// \x00", "!", "\"\\", "aaaaaaaaaaaaaaaaaaaaaaaaa"} {
		f.Add(src)
	}
	f.Fuzz(func(t *testing.T, src string) {
		checkDefined(t, src)
		checkDefined(t, strings.Repeat(src, 3))
		if got, want := lex.Key(src), slices.Contains(keywords(), src); got != want {
			t.Fatalf("Key(%.80q) = %v", src, got)
		}
		if got, want := lex.Dir(src), 1+slices.Index(directions(), src); got != want {
			t.Fatalf("Dir(%.80q) = %d, want %d", src, got, want)
		}
	})
}

// FuzzPromise9_2 checks any tokens against the definitions.
func FuzzPromise9_2(f *testing.F) {
	f.Add(1, "a", 2, "b", 32767)
	f.Add(3, "a\n", 0, "", -5)
	f.Add(-1, "\xff", 6, "\"", 0)
	f.Fuzz(func(t *testing.T, kind int, s string, second int, other string, n int) {
		checkQuote(t, s, definedQuote(s))
		l := []api.Tok{{Kind: kind, Text: s, Num: n}, {Kind: second, Text: other, Num: -n}, {Kind: kind % 6, Text: other, Num: n}}
		checkPrint(t, l, definedPrint(l))
	})
}

// FuzzPromise9_3 checks that sources and texts survive printing.
func FuzzPromise9_3(f *testing.F) {
	for _, src := range sources() {
		f.Add(src)
	}
	f.Fuzz(func(t *testing.T, src string) {
		if _, fail := lex.All(src); fail == (api.Fail{}) {
			checkPrintedAgain(t, src)
		}
		if isText(src) {
			checkTokens(t, lex.Quote(src), text(src))
		}
	})
}
