package letter_test

import (
	"slices"
	"strings"
	"testing"

	"clew/letter"
)

// The bytes that the chapter tells apart, written out.
const (
	smalls   = "abcdefghijklmnopqrstuvwxyz"
	capitals = "ABCDEFGHIJKLMNOPQRSTUVWXYZ"
	digits   = "0123456789"
)

// The limits that the chapter names.
const (
	mostName  = 24
	mostWord  = 9
	mostText  = 1024
	mostShort = 9
)

// allBytes are the 256 bytes, each as a text of its own.
func allBytes() []string {
	list := make([]string, 256)
	for c := range list {
		list[c] = string([]byte{byte(c)})
	}
	return list
}

// foreign are texts with letters, digits and spaces beyond A-Z, a-z, 0-9 and ' ', and with bytes that are no characters at all.
func foreign() []string {
	return []string{
		"\u00c4\u00d6\u00dc", "\u00e4\u00f6\u00fc\u00df", "\u0130", "\u0131", "\u212a", "\u017f", "\u0391\u03b1",
		"\u0661\u0662", "\uff11", "\uff21", "\u00a0", "\u2003", "\u2019", "\u2010", "\u3002", "\U0001f511",
		"\xff", "\xc3", "\x80\x81", "\xed\xa0\x80", "A\xffB", "a\xc3", "\xe2\x84",
	}
}

// lines are ordinary lines, and lines of separators, marks and foreign bytes.
func lines() []string {
	list := append(foreign(),
		"", " ", "   ", "\t", "\n", "\r\n", "\x00", "look", "LOOK", " look ", "take the brass lamp",
		"Take lamp, go N.", "take all except lamp and key. then north", "n.e.s.w", "...", ",,,", ".,.", " . ", "a.b,c",
		"don't", "'quoted'", "well-known", "--", "'", "-", "-'-", "turn dial to 42", "-5", "3rd door", "under_score",
		"a_b", "x@y", "/save", "what?!", "one\ttwo\nthree\rfour", "inventories", strings.Repeat("ab ", 300), strings.Repeat("Z", 5000),
	)
	for _, s := range foreign() {
		list = append(list, "open "+s+" door", "open"+s+"door", s+"Door", "Door"+s)
	}
	return list
}

// changed is s with every byte of from replaced by the byte of to at the same place.
func changed(s, from, to string) string {
	b := []byte(s)
	for i, c := range b {
		if at := strings.IndexByte(from, c); at >= 0 {
			b[i] = to[at]
		}
	}
	return string(b)
}

// definedWords are the words of a line by another way: separators become spaces, marks get spaces around them.
func definedWords(line string) []string {
	var spaced strings.Builder
	for _, c := range []byte(line) {
		switch {
		case strings.IndexByte(smalls+digits+"-'", c) >= 0:
			spaced.WriteByte(c)
		case strings.IndexByte(capitals, c) >= 0:
			spaced.WriteByte(smalls[strings.IndexByte(capitals, c)])
		case c == '.' || c == ',':
			spaced.WriteString(" " + string(rune(c)) + " ")
		default:
			spaced.WriteByte(' ')
		}
	}
	return strings.Fields(spaced.String())
}

func checkText(t *testing.T, call, s, got, want string) {
	t.Helper()
	if got != want {
		t.Fatalf("%s(%.60q) = %.60q, want %.60q", call, s, got, want)
	}
}

func checkWords(t *testing.T, line string, want ...string) {
	t.Helper()
	if got := letter.Words(line); !slices.Equal(got, want) {
		t.Fatalf("Words(%.60q) = %.300q, want %.300q", line, got, want)
	}
}

func TestPromise4_1LowerAndCapExamples(t *testing.T) {
	for s, want := range map[string]string{
		"": "", "Go North": "go north", "GO": "go", "already low": "already low", "@AZ[`az{": "@az[`az{", "a1-B'.,_": "a1-b'.,_",
		capitals: smalls, smalls: smalls, digits: digits, "\u00c4A": "\u00c4a", "\u212aK": "\u212ak", "A\xffB\xc3": "a\xffb\xc3",
	} {
		checkText(t, "Lower", s, letter.Lower(s), want)
	}
	for s, want := range map[string]string{
		"": "", "a tin": "A tin", "a": "A", "z": "Z", "A tin": "A tin", " a": " a", "1a": "1a", "aBC": "ABC", "zz top": "Zz top",
		"`a": "`a", "{a": "{a", "\u00e4a": "\u00e4a", "\u0131a": "\u0131a", "\xffa": "\xffa", "a\xff": "A\xff",
	} {
		checkText(t, "Cap", s, letter.Cap(s), want)
	}
}

func TestPromise4_1LowerOfEachByte(t *testing.T) {
	for _, c := range allBytes() {
		for _, s := range []string{c, c + c, "q" + c + "Q", "\xff" + c, c + "\xc3"} {
			checkText(t, "Lower", s, letter.Lower(s), changed(s, capitals, smalls))
		}
	}
	all := strings.Join(allBytes(), "")
	checkText(t, "Lower", all, letter.Lower(all), changed(all, capitals, smalls))
	for _, s := range append(lines(), strings.Repeat("Ab\xff", 70000)) {
		checkText(t, "Lower", s, letter.Lower(s), changed(s, capitals, smalls))
	}
}

func TestPromise4_1CapChangesTheFirstByteAlone(t *testing.T) {
	for _, c := range allBytes() {
		large := changed(c, smalls, capitals)
		for _, rest := range []string{"", "a", "A", " b", "\xff", c, strings.Repeat("z", 3000)} {
			checkText(t, "Cap", c+rest, letter.Cap(c+rest), large+rest)
		}
	}
}

// kind is one of the functions that report what a text is: by the bytes that may come first and later, and the lengths.
type kind struct {
	name        string
	is          func(s string) bool
	first       string
	later       string
	least, most int
}

func kinds() []kind {
	printable := "\n"
	for c := 32; c <= 126; c++ {
		printable += string([]byte{byte(c)})
	}
	return []kind{
		{"IsName", letter.IsName, smalls, smalls + digits + "_", 1, mostName},
		{"IsWord", letter.IsWord, smalls + digits, smalls + digits + "-'", 1, mostWord},
		{"IsText", letter.IsText, printable, printable, 0, mostText},
	}
}

func (k kind) check(t *testing.T, s string, want bool) {
	t.Helper()
	if got := k.is(s); got != want {
		t.Fatalf("%s(%.60q of %d bytes) = %v", k.name, s, len(s), got)
	}
}

// defined is what k.is should report.
func (k kind) defined(s string) bool {
	if len(s) < k.least || len(s) > k.most {
		return false
	}
	for i := range len(s) {
		allowed := k.later
		if i == 0 {
			allowed = k.first
		}
		if strings.IndexByte(allowed, s[i]) < 0 {
			return false
		}
	}
	return true
}

func TestPromise4_1IsExamples(t *testing.T) {
	for s, want := range map[string][3]bool{ // IsName, IsWord, IsText
		"":           {false, false, true},
		"a":          {true, true, true},
		"z":          {true, true, true},
		"0":          {false, true, true},
		"9":          {false, true, true},
		"a_1":        {true, false, true},
		"_a":         {false, false, true},
		"1a":         {false, true, true},
		"A":          {false, false, true},
		"aB":         {false, false, true},
		"a-b":        {false, true, true},
		"-a":         {false, false, true},
		"7-a":        {false, true, true},
		"don't":      {false, true, true},
		"'tis":       {false, false, true},
		"a'":         {false, true, true},
		"a-":         {false, true, true},
		"a b":        {false, false, true},
		"a ":         {false, false, true},
		" a":         {false, false, true},
		"a.":         {false, false, true},
		"abcdefghij": {true, false, true},
		"a\n":        {false, false, true},
		"\n":         {false, false, true},
		"\t":         {false, false, false},
		"a\r\n":      {false, false, false},
		"a\x00":      {false, false, false},
		"a\x7f":      {false, false, false},
		"\u00e4":     {false, false, false},
		"a\u00e4":    {false, false, false},
		"a\u0661":    {false, false, false},
		"a\xff":      {false, false, false},
		"Hello. \"~": {false, false, true},
	} {
		for i, k := range kinds() {
			k.check(t, s, want[i])
		}
	}
}

func TestPromise4_1IsOfEachByteFirstAndLater(t *testing.T) {
	for _, k := range kinds() {
		for _, c := range allBytes() {
			later := strings.Contains(k.later, c)
			k.check(t, c, strings.Contains(k.first, c))
			k.check(t, c+"abc", strings.Contains(k.first, c))
			k.check(t, "a"+c, later)
			k.check(t, "a"+c+"a", later)
			for at := 1; at < k.most; at++ {
				k.check(t, strings.Repeat("a", at)+c+strings.Repeat("a", k.most-at-1), later)
			}
		}
	}
}

func TestPromise4_1IsAtTheLengthLimits(t *testing.T) {
	for _, k := range kinds() {
		k.check(t, "", k.least == 0)
		for _, c := range []string{"a", "m", "z"} {
			for length := 1; length <= k.most; length++ {
				k.check(t, strings.Repeat(c, length), true)
			}
			for _, length := range []int{k.most + 1, k.most + 2, 2 * k.most, 256 + k.most, 65536, 65536 + k.most, 1 << 20} {
				k.check(t, strings.Repeat(c, length), false)
			}
		}
		for _, s := range append(lines(), allBytes()...) {
			k.check(t, s, k.defined(s))
		}
	}
}

func TestPromise4_2WordsExamples(t *testing.T) {
	checkWords(t, "Take lamp, go N.", "take", "lamp", ",", "go", "n", ".")
	checkWords(t, "")
	checkWords(t, " !? ")
	checkWords(t, "a", "a")
	checkWords(t, "...", ".", ".", ".")
	checkWords(t, ".,.", ".", ",", ".")
	checkWords(t, "a.b,c", "a", ".", "b", ",", "c")
	checkWords(t, "  GO   North  ", "go", "north")
	checkWords(t, "don't 'quote' well-known -5 - '", "don't", "'quote'", "well-known", "-5", "-", "'")
	checkWords(t, "a_b/c\"d\te\nf\x00g", "a", "b", "c", "d", "e", "f", "g")
	checkWords(t, "3RD x2y", "3rd", "x2y")
	checkWords(t, "inventories", "inventories")
	checkWords(t, "B\u00c4r \u0661 n\u00b2 \u212a x\xffy", "b", "r", "n", "x", "y")
	checkWords(t, strings.Repeat("Q", 5000), strings.Repeat("q", 5000))
}

func TestPromise4_2WordsOfEachByte(t *testing.T) {
	for _, c := range allBytes() {
		lower := changed(c, capitals, smalls)
		switch {
		case strings.Contains(smalls+digits+"-'", lower):
			checkWords(t, c, lower)
			checkWords(t, c+c+" "+c, lower+lower, lower)
			checkWords(t, "A"+c+"B", "a"+lower+"b")
			checkWords(t, "."+c+",", ".", lower, ",")
		case c == "." || c == ",":
			checkWords(t, c, c)
			checkWords(t, c+c, c, c)
			checkWords(t, "A"+c+"B", "a", c, "b")
			checkWords(t, "."+c+",", ".", c, ",")
		default:
			checkWords(t, c)
			checkWords(t, c+c)
			checkWords(t, "A"+c+"B", "a", "b")
			checkWords(t, "."+c+",", ".", ",")
		}
	}
}

// shortLines yields all texts of at most most bytes of an alphabet that has one byte of each class and its neighbours.
func shortLines(most int, yield func(s string)) {
	yield("")
	if most == 0 {
		return
	}
	for _, c := range []byte("aZ5-'., _\xc3") {
		shortLines(most-1, func(s string) { yield(string([]byte{c}) + s) })
	}
}

func TestPromise4_2WordsOfAllShortLines(t *testing.T) {
	shortLines(5, func(s string) { checkWords(t, s, definedWords(s)...) })
	for _, s := range lines() {
		checkWords(t, s, definedWords(s)...)
	}
	all := strings.Join(allBytes(), "")
	checkWords(t, all, definedWords(all)...)
}

func TestPromise4_2Short(t *testing.T) {
	for s, want := range map[string]string{
		"": "", "a": "a", "lamp": "lamp", "inventor": "inventor", "inventori": "inventori", "inventorie": "inventori", "inventories": "inventori",
		"ABCDEFGHIJ": "ABCDEFGHI", "two words here": "two words", "\u00e4\u00e4\u00e4\u00e4\u00e4": "\u00e4\u00e4\u00e4\u00e4\xc3",
		"\xff\xff\xff\xff\xff\xff\xff\xff\xff\xff": "\xff\xff\xff\xff\xff\xff\xff\xff\xff", "\n\n\n\n\n\n\n\n\n\n\n": "\n\n\n\n\n\n\n\n\n",
	} {
		checkText(t, "Short", s, letter.Short(s), want)
	}
	long := strings.Repeat("abcdefgh ", 40000)
	for length := range 40 {
		checkText(t, "Short", long[:length], letter.Short(long[:length]), long[:min(length, mostShort)])
	}
	checkText(t, "Short", long, letter.Short(long), long[:mostShort])
}

func TestPromise4_2Join(t *testing.T) {
	for _, x := range []struct {
		list []string
		sep  string
		want string
	}{
		{nil, ", ", ""},
		{[]string{}, ", ", ""},
		{[]string{""}, ", ", ""},
		{[]string{"a"}, ", ", "a"},
		{[]string{"a", "b"}, ", ", "a, b"},
		{[]string{"a", "b", "c"}, "", "abc"},
		{[]string{"", ""}, "-", "-"},
		{[]string{"", "x", ""}, " and ", " and x and "},
		{[]string{"\xff", "\u00e4"}, "\xc3", "\xff\xc3\u00e4"},
		{[]string{"A,", ",B"}, ",", "A,,,B"},
	} {
		if got := letter.Join(x.list, x.sep); got != x.want {
			t.Fatalf("Join(%q, %q) = %q, want %q", x.list, x.sep, got, x.want)
		}
	}
	many := slices.Repeat([]string{"ab"}, 1000)
	checkText(t, "Join", "1000 strings", letter.Join(many, "|"), strings.Repeat("ab|", 999)+"ab")
}

// checkConsequences checks promise 4.3 for one text.
func checkConsequences(t *testing.T, s string) {
	t.Helper()
	low := letter.Lower(s)
	checkText(t, "Lower of Lower", s, letter.Lower(low), low)
	short := letter.Short(s)
	checkText(t, "Short of Short", s, letter.Short(short), short)
	words := letter.Words(s)
	checkWords(t, letter.Join(words, " "), words...)
}

func TestPromise4_3Consequences(t *testing.T) {
	for _, s := range slices.Concat(lines(), allBytes(), []string{strings.Join(allBytes(), ""), strings.Join(allBytes(), "A")}) {
		checkConsequences(t, s)
	}
	shortLines(4, func(s string) { checkConsequences(t, s) })
}

// What fits the definitions of words, names and texts agrees across the functions.
func TestPromise4_3WordsAreWordsOfADictionary(t *testing.T) {
	for _, s := range lines() {
		for _, w := range letter.Words(s) {
			starts := strings.IndexByte("-'.,", w[0]) < 0
			if got := letter.IsWord(letter.Short(w)); got != starts {
				t.Fatalf("IsWord(Short(%.60q)) = %v", w, got)
			}
			checkText(t, "Lower", w, letter.Lower(w), w)
		}
	}
}

// R3: the arguments stay as they are, and lists share no memory with each other.
func TestResultsAreNewMemory(t *testing.T) {
	list := append(make([]string, 0, 8), "a", "b", "c")
	before := slices.Clone(list[:cap(list)])
	letter.Join(list, ", ")
	if !slices.Equal(list[:cap(list)], before) {
		t.Fatal("Join changes its list", list)
	}
	first, second := letter.Words("Go N, S."), letter.Words("Go N, S.")
	for i := range first {
		first[i] = "changed"
	}
	_ = append(first[:1], "appended")
	if !slices.Equal(second, []string{"go", "n", ",", "s", "."}) {
		t.Fatal("Words shares memory", second)
	}
}

// P1 and R4: the same arguments give the same results, whatever was called in between.
func TestCallsRememberNothing(t *testing.T) {
	type answers struct {
		low, large, short  string
		name, word, text   bool
		words, wordsOfBoth string
	}
	ask := func(s string) answers {
		return answers{
			letter.Lower(s), letter.Cap(s), letter.Short(s),
			letter.IsName(s), letter.IsWord(s), letter.IsText(s),
			letter.Join(letter.Words(s), "|"), letter.Join([]string{s, s}, s),
		}
	}
	list := append(lines(), allBytes()...)
	before := make([]answers, len(list))
	for i, s := range list {
		before[i] = ask(s)
	}
	for i, s := range slices.Backward(list) {
		if after := ask(s); after != before[i] {
			t.Fatalf("%.60q: first %.300v, then %.300v", s, before[i], after)
		}
	}
}

// P1: long inputs of every class end.
func TestLongInputsEnd(t *testing.T) {
	for _, c := range []string{"a", "A", " ", ".", "\xff", "\u00e4", "a ", "a."} {
		s := strings.Repeat(c, 1<<20)
		checkConsequences(t, s)
		letter.Cap(s)
		for _, k := range kinds() {
			k.check(t, s, false)
		}
	}
}

// FuzzPromise4 checks the functions against their definitions.
func FuzzPromise4(f *testing.F) {
	for _, s := range lines() {
		f.Add(s)
	}
	f.Fuzz(func(t *testing.T, s string) {
		checkText(t, "Lower", s, letter.Lower(s), changed(s, capitals, smalls))
		if s != "" {
			checkText(t, "Cap", s, letter.Cap(s), changed(s[:1], smalls, capitals)+s[1:])
		}
		checkWords(t, s, definedWords(s)...)
		checkText(t, "Short", s, letter.Short(s), s[:min(len(s), mostShort)])
		checkText(t, "Join", s, letter.Join([]string{s, "", s}, ";"), s+";;"+s)
		checkConsequences(t, s)
		for _, k := range kinds() {
			k.check(t, s, k.defined(s))
		}
	})
}
