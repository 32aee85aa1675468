package abbrev_test

import (
	"math"
	"slices"
	"strings"
	"testing"

	"clew/abbrev"
	"clew/api"
)

// mostAbbrevs is how many abbreviations there are at most.
const mostAbbrevs = 32

// definedCost is the cost of s by chapter 6, byte by byte.
func definedCost(s string) int {
	total := 0
	for i := range len(s) {
		switch c := s[i]; {
		case c == ' ' || 'a' <= c && c <= 'z':
			total++
		case 'A' <= c && c <= 'Z' || '0' <= c && c <= '9':
			total += 2
		case strings.IndexByte(".,!?'\"-:;()/&*+=%#$\n<", c) >= 0:
			total += 2
		case ' ' < c && c <= '~':
			total += 3
		}
	}
	return total
}

// without is what remains of part when the occurrences of sub, found from left to right without overlaps, are removed.
func without(part, sub string) []string {
	var rest []string
	begin := 0
	for at := 0; at+len(sub) <= len(part); {
		if part[at:at+len(sub)] != sub {
			at++
			continue
		}
		rest = append(rest, part[begin:at])
		at += len(sub)
		begin = at
	}
	return append(rest, part[begin:])
}

// substrings are those that are considered, the longest ones first, and the smallest of a length first.
func substrings(parts []string) []string {
	seen := map[string]bool{}
	for _, part := range parts {
		for length := 2; length <= 8; length++ {
			for at := 0; at+length <= len(part); at++ {
				seen[part[at:at+length]] = true
			}
		}
	}
	var list []string
	for sub := range seen {
		list = append(list, sub)
	}
	slices.SortFunc(list, func(a, b string) int {
		if len(a) != len(b) {
			return len(b) - len(a)
		}
		return strings.Compare(a, b)
	})
	return list
}

// definedChoose is Choose by its definition: each round counts everything anew.
func definedChoose(texts []string, most int) []string {
	parts := slices.Clone(texts)
	var chosen []string
	for len(chosen) < most && len(chosen) < mostAbbrevs {
		best, greatest := "", 0
		for _, sub := range substrings(parts) {
			count := 0
			for _, part := range parts {
				count += len(without(part, sub)) - 1
			}
			if saving := (definedCost(sub)-2)*count - definedCost(sub); saving > greatest {
				best, greatest = sub, saving
			}
		}
		if best == "" {
			break
		}
		chosen = append(chosen, best)
		var rest []string
		for _, part := range parts {
			rest = append(rest, without(part, best)...)
		}
		parts = rest
	}
	return chosen
}

// definedCut is Cut by its definition: of all divisions, taken in the order of preference, the first one of the smallest cost.
func definedCut(s string, abbrevs []string) []api.Piece {
	var best []api.Piece
	least := math.MaxInt
	var divide func(rest string, pieces []api.Piece, cost int)
	divide = func(rest string, pieces []api.Piece, cost int) {
		if rest == "" {
			if cost < least {
				best, least = slices.Clone(pieces), cost
			}
			return
		}
		literal := slices.Clone(pieces)
		if last := len(literal) - 1; last >= 0 && literal[last].Abbr == 0 {
			literal[last].Text += rest[:1]
		} else {
			literal = append(literal, api.Piece{Text: rest[:1]})
		}
		divide(rest[1:], literal, cost+definedCost(rest[:1]))
		for i, text := range abbrevs {
			if i < mostAbbrevs && text != "" && strings.HasPrefix(rest, text) {
				divide(rest[len(text):], append(slices.Clone(pieces), api.Piece{Abbr: i + 1}), cost+2)
			}
		}
	}
	divide(s, nil, 0)
	return best
}

// definedLeast is the smallest cost of s, from its end.
func definedLeast(s string, abbrevs []string) int {
	least := make([]int, len(s)+1)
	for at := len(s) - 1; at >= 0; at-- {
		least[at] = least[at+1] + definedCost(s[at:at+1])
		for i, text := range abbrevs {
			if i < mostAbbrevs && text != "" && strings.HasPrefix(s[at:], text) {
				least[at] = min(least[at], least[at+len(text)]+2)
			}
		}
	}
	return least[0]
}

// numbers returns ever the same numbers below n.
func numbers() func(n int) int {
	state := uint64(20261118)
	return func(n int) int {
		state = state*6364136223846793005 + 1442695040888963407
		return int(state >> 33 % uint64(n))
	}
}

// mixedText is a text of that length whose bytes are some of those in letters.
func mixedText(next func(n int) int, letters string, length int) string {
	b := make([]byte, length)
	for i := range b {
		b[i] = letters[next(len(letters))]
	}
	return string(b)
}

// alphabets are bytes of each cost, few of them, so that substrings repeat and overlap.
func alphabets() []string {
	return []string{"a", "~", "ab", "a~", "abc", "aB~", "a b", "A1", "\x00~", "a\xff", "\x00\x80\xff", "ab~\x00", "abcdefgh", "aAbB12~ \n"}
}

// collections are lists of texts: none, empty ones, ordinary ones, ones of few different bytes, and ones with bytes that no text has.
func collections() [][]string {
	list := [][]string{
		nil,
		{},
		{""},
		{"", "", ""},
		{"a"},
		{"~", "~", "~", "~", "~", "~"},
		{"the lamp", "the box", "the key"},
		{"the lamp", "the box"},
		{"You are in a maze of twisty little passages, all alike.", "You are in a maze of twisty little passages, all different.", "You are in a little maze of twisting passages, all different."},
		{"The lamp is now on.", "The lamp is now off.", "The door is now open.", "The door is now closed.", "You can't go that way.", "You can't see that here.", "You can't do that.", "Taken.", "Dropped."},
		{"West of House\nYou are standing in an open field west of a white house, with a boarded front door.", "North of House\nYou are facing the north side of a white house. There is no door here, and all the windows are boarded up."},
	}
	next := numbers()
	for _, letters := range alphabets() {
		for _, length := range []int{1, 2, 3, 7, 8, 9, 16, 17, 40} {
			same := mixedText(next, letters, length)
			list = append(list, []string{same}, []string{same, same}, []string{same + same, same}, []string{strings.Repeat(same, 5)})
			list = append(list, []string{mixedText(next, letters, length), mixedText(next, letters, next(length)), mixedText(next, letters, length)})
		}
	}
	return list
}

// distinct are n texts of one byte each, four times: no two of them have a byte in common.
func distinct(n int) []string {
	list := make([]string, n)
	for i := range list {
		c := string([]byte{byte('!' + i)})
		list[i] = c + c + c + c
	}
	return list
}

func checkChoose(t *testing.T, texts []string, most int, want ...string) {
	t.Helper()
	if got := abbrev.Choose(texts, most); !slices.Equal(got, want) {
		t.Fatalf("Choose(%.200q, %d) = %q, want %q", texts, most, got, want)
	}
}

func checkCut(t *testing.T, s string, abbrevs []string, want ...api.Piece) {
	t.Helper()
	if got := abbrev.Cut(s, abbrevs); !slices.Equal(got, want) {
		t.Fatalf("Cut(%.200q, %.200q) = %+v, want %+v", s, abbrevs, got, want)
	}
}

func checkCost(t *testing.T, l []api.Piece, abbrevs []string, want int) {
	t.Helper()
	if got := abbrev.Cost(l, abbrevs); got != want {
		t.Fatalf("Cost(%+v, %.200q) = %d, want %d", l, abbrevs, got, want)
	}
}

func checkJoin(t *testing.T, l []api.Piece, abbrevs []string, want string, wantErr api.Errno) {
	t.Helper()
	if got, err := abbrev.Join(l, abbrevs); got != want || err != wantErr {
		t.Fatalf("Join(%+v, %.200q) = %.200q, error %d, want %.200q, error %d", l, abbrevs, got, int(err), want, int(wantErr))
	}
}

func literal(s string) api.Piece { return api.Piece{Text: s} }

func number(n int) api.Piece { return api.Piece{Abbr: n} }

func TestPromise7_1Examples(t *testing.T) {
	checkChoose(t, []string{"the lamp", "the box", "the key"}, 1, "the ")
	checkChoose(t, []string{"the lamp", "the box", "the key"}, mostAbbrevs, "the ")
	checkChoose(t, []string{"the lamp", "the box"}, 1)
	checkChoose(t, nil, 1)
	checkChoose(t, []string{}, mostAbbrevs)
	checkChoose(t, []string{"", ""}, mostAbbrevs)
	checkChoose(t, []string{"a", "~", "~", "~"}, mostAbbrevs)
}

func TestPromise7_1IsAsDefined(t *testing.T) {
	for _, texts := range collections() {
		for _, most := range []int{1, 2, 5, mostAbbrevs} {
			checkChoose(t, texts, most, definedChoose(texts, most)...)
		}
	}
}

func TestPromise7_1ManyShortLists(t *testing.T) {
	next := numbers()
	for _, letters := range alphabets() {
		for range 60 {
			var texts []string
			for range next(6) {
				texts = append(texts, mixedText(next, letters, next(14)))
			}
			checkChoose(t, texts, mostAbbrevs, definedChoose(texts, mostAbbrevs)...)
		}
	}
}

func TestPromise7_1MostBelow1(t *testing.T) {
	for _, most := range []int{0, -1, -2, -mostAbbrevs, math.MinInt32, math.MinInt} {
		checkChoose(t, []string{"the lamp", "the box", "the key"}, most)
		checkChoose(t, nil, most)
	}
}

func TestPromise7_1AtMost32(t *testing.T) {
	for _, n := range []int{1, 2, 31, 32, 33, 40} {
		once := distinct(n)
		texts := append(slices.Clone(once), once...)
		whole := definedChoose(texts, mostAbbrevs)
		if len(whole) != min(n, mostAbbrevs) {
			t.Fatal(len(whole), "of", n)
		}
		for _, most := range []int{1, 2, 30, 31, 32, 33, 34, 64, 1000, math.MaxInt32, math.MaxInt} {
			checkChoose(t, texts, most, whole[:min(most, len(whole))]...)
		}
	}
}

func TestPromise7_1LengthsOfSubstrings(t *testing.T) {
	// One byte is too short, however often it occurs.
	checkChoose(t, []string{"~", "~", "~", "~", "~"}, 9)
	checkChoose(t, []string{"~a", "b~", "~c", "d~", "~e"}, 9)
	// Two bytes are enough.
	checkChoose(t, []string{"~}", "~}", "~}"}, 9, "~}")
	checkChoose(t, []string{"a~}b", "c~}d"}, 9, "~}")
	// Eight bytes are the most.
	checkChoose(t, []string{"abcdefgh", "abcdefgh"}, 9, "abcdefgh")
	checkChoose(t, []string{"iabcdefghj", "kabcdefghl"}, 9, "abcdefgh")
	checkChoose(t, []string{"bcdefghia", "bcdefghia"}, 9, "bcdefghi")
	checkChoose(t, []string{"bcdefghijklmnopqr", "bcdefghijklmnopqr"}, 9, "bcdefghi", "jklmnopq")
	for length := 2; length <= 8; length++ {
		s := "~}|{`_^]"[:length]
		checkChoose(t, []string{"a" + s + "b", "c" + s + "d", "e" + s}, 9, s)
	}
}

func TestPromise7_1SavesMoreThan0(t *testing.T) {
	// Four codes: twice saves 0, three times 2.
	checkChoose(t, []string{"abcd", "abcd"}, 9)
	checkChoose(t, []string{"abcd", "abcd", "abcd"}, 9, "abcd")
	// Five codes: twice saves 1.
	checkChoose(t, []string{"abcde", "abcde"}, 9, "abcde")
	checkChoose(t, []string{"abcde"}, 9)
	// Three codes: three times saves 0, four times 1.
	checkChoose(t, []string{"abc", "abc", "abc"}, 9)
	checkChoose(t, []string{"abc", "abc", "abc", "abc"}, 9, "abc")
	// Two codes save nothing, however often.
	checkChoose(t, slices.Repeat([]string{"ab"}, 1000), 9)
	// Capital letters and symbols have two codes, the other bytes three.
	checkChoose(t, []string{"AB", "AB"}, 9)
	checkChoose(t, []string{"AB", "AB", "AB"}, 9, "AB")
	checkChoose(t, []string{"12.", "12."}, 9, "12.")
	checkChoose(t, []string{"a~", "a~"}, 9)
	checkChoose(t, []string{"A~", "A~"}, 9, "A~")
	checkChoose(t, []string{strings.Repeat("~}", 500)}, 1, "~}~}~}~}")
}

func TestPromise7_1OccurrencesDoNotOverlap(t *testing.T) {
	// With overlaps, two tildes would occur twice in three.
	checkChoose(t, []string{"~~~"}, 9)
	checkChoose(t, []string{"~~~~"}, 9, "~~")
	checkChoose(t, []string{"a~}~}b"}, 9, "~}")
	checkChoose(t, []string{"~}~}~"}, 9, "}~")
	checkChoose(t, []string{"abcabcabca"}, 9)
	checkChoose(t, []string{"abcabcabcabc"}, 9, "abcabc")
	checkChoose(t, []string{"abcdabcdabcd"}, 9, "abcd")
	// The search continues behind a counted occurrence, in each text from its beginning.
	checkChoose(t, []string{"~~~", "~~~"}, 9, "~~~")
	checkChoose(t, []string{"~~~", "a~~b"}, 9, "~~")
	checkChoose(t, []string{"xABAy", "zABABAw"}, 9, "ABA")
	checkChoose(t, []string{strings.Repeat("a", 8), strings.Repeat("a", 15)}, 9, strings.Repeat("a", 7))
	for length := range 100 {
		texts := []string{strings.Repeat("a", length), strings.Repeat("~", length/2)}
		checkChoose(t, texts, mostAbbrevs, definedChoose(texts, mostAbbrevs)...)
	}
}

func TestPromise7_1WhatIsRemovedDivides(t *testing.T) {
	// What remains before and behind is not joined: "ABCD" never occurs.
	checkChoose(t, []string{"AB12345678CD", "AB12345678CD", "AB12345678CD"}, 9, "12345678", "AB", "CD")
	// What remains between two removed occurrences is a part, too.
	checkChoose(t, []string{"abcdefgh12345abcdefgh", "abcdefgh12345abcdefgh"}, 9, "abcdefgh", "12345")
	// What overlaps a removed occurrence no longer counts.
	checkChoose(t, []string{"one lamp", "one lamp", "one lamps"}, 9, "one lamp")
	checkChoose(t, []string{"xabcdefghij", "yabcdefghij", "zabcdefghij"}, 9, "abcdefgh")
	checkChoose(t, []string{"abcdefgh", "abcdefgh", "abcdefgh", "efgh"}, 9, "abcdefgh")
	checkChoose(t, []string{"abcdefgh", "abcdefgh", "abcdefgh", "efgh", "efgh", "efgh"}, 9, "abcdefgh", "efgh")
	// Texts are separate from the beginning.
	checkChoose(t, []string{"a~", "}a", "~}"}, 9)
}

func TestPromise7_1SameSaving(t *testing.T) {
	// Six codes twice save as many as four codes three times: the longest one is chosen.
	checkChoose(t, []string{"abcd", "efghij", "abcd", "efghij", "abcd"}, 1, "efghij")
	checkChoose(t, []string{"abcd", "efghij", "abcd", "efghij", "abcd"}, 2, "efghij", "abcd")
	// The length is that in bytes: three capital letters have as many codes as six small ones.
	checkChoose(t, []string{"AAA", "bcdefg", "AAA", "bcdefg"}, 1, "bcdefg")
	checkChoose(t, []string{"~~", "Bcde", "abcdef", "~~", "Bcde", "abcdef"}, 9, "abcdef", "~~", "Bcde")
	// Bytes that cost nothing make it longer and save as much.
	checkChoose(t, []string{"\x00~~\xff", "\x00~~\xff"}, 9, "\x00~~\xff")
	checkChoose(t, []string{"\x00~~\xff", "\x01~~\xff"}, 9, "~~\xff")
}

func TestPromise7_1SameSavingAndLength(t *testing.T) {
	checkChoose(t, []string{"fghij", "abcde", "fghij", "abcde"}, 1, "abcde")
	checkChoose(t, []string{"abcde", "fghij", "abcde", "fghij"}, 9, "abcde", "fghij")
	checkChoose(t, []string{"abcdefghi", "abcdefghi"}, 1, "abcdefgh")
	// A small letter lies behind a capital one, and a byte counts from 0 to 255.
	checkChoose(t, []string{"bcdeZ", "Zfghi", "bcdeZ", "Zfghi"}, 1, "Zfghi")
	checkChoose(t, []string{"\xff~~", "}}\x80", "\xff~~", "}}\x80"}, 1, "}}\x80")
	checkChoose(t, []string{"\xff~~", "\x01}}", "\xff~~", "\x01}}"}, 1, "\x01}}")
	checkChoose(t, []string{"\xff~~", "\x80}}", "\xff~~", "\x80}}"}, 2, "\x80}}", "\xff~~")
	// The order of the texts does not matter.
	for _, texts := range collections() {
		turned := slices.Clone(texts)
		slices.Reverse(turned)
		checkChoose(t, turned, mostAbbrevs, abbrev.Choose(texts, mostAbbrevs)...)
	}
}

func TestPromise7_1BytesThatNoTextHas(t *testing.T) {
	checkChoose(t, slices.Repeat([]string{"\x00\x01\x02\x03\x80\xfe\xff\t"}, 100), mostAbbrevs)
	checkChoose(t, slices.Repeat([]string{"\x7f\x7fa\r"}, 100), mostAbbrevs)
	checkChoose(t, slices.Repeat([]string{"caf\xc3\xa9 au lait"}, 3), 1, " au lait")
	checkChoose(t, slices.Repeat([]string{"caf\xc3\xa9"}, 3), 9)
	checkChoose(t, slices.Repeat([]string{"caf\xc3\xa9"}, 4), 9, "caf\xc3\xa9")
}

func TestPromise7_2Examples(t *testing.T) {
	checkCut(t, "the hat", []string{"the "}, number(1), literal("hat"))
	checkCut(t, "ab", []string{"ab"}, literal("ab"))
	checkCut(t, "", nil)
	checkCut(t, "", []string{"", "a"})
	checkCut(t, "the hat", nil, literal("the hat"))
	checkCut(t, "the hat", []string{"hats", "lamp"}, literal("the hat"))
	checkCut(t, "the hat", []string{"the hat and the cat"}, literal("the hat"))
	checkCut(t, "hat", []string{"hat"}, number(1))
	checkCut(t, "in the hat", []string{"hat", "the "}, literal("in "), number(2), number(1))
	checkCut(t, "hathathat", []string{"hat"}, number(1), number(1), number(1))
}

func TestPromise7_2IsAsDefined(t *testing.T) {
	next := numbers()
	for _, letters := range alphabets() {
		for range 150 {
			s := mixedText(next, letters, next(9))
			var abbrevs []string
			for range next(5) {
				abbrevs = append(abbrevs, mixedText(next, letters, next(5)))
			}
			if s != "" {
				from := next(len(s))
				abbrevs = append(abbrevs, s[from:], s[:from])
			}
			checkCut(t, s, abbrevs, definedCut(s, abbrevs)...)
		}
	}
}

func TestPromise7_2SmallestCost(t *testing.T) {
	// The first abbreviation that fits, and the longest one, are not always part of the smallest cost.
	checkCut(t, "abcdefgh", []string{"abcd", "bcdefgh"}, literal("a"), number(2))
	checkCut(t, "abcdefgh", []string{"abcde", "abcd", "efgh"}, number(2), number(3))
	checkCut(t, "abcdefg", []string{"abcdef", "abc", "defg"}, number(1), literal("g"))
	next := numbers()
	for _, letters := range alphabets() {
		for range 20 {
			s := mixedText(next, letters, 200)
			abbrevs := []string{s[3:6], s[50:57], s[:5], s[70:100], s[2:4], s[190:], s[120:123]}
			if got, want := abbrev.Cost(abbrev.Cut(s, abbrevs), abbrevs), definedLeast(s, abbrevs); got != want {
				t.Fatalf("Cut(%q, %q) costs %d, want %d", s, abbrevs, got, want)
			}
		}
	}
}

func TestPromise7_2LiteralBytesArePreferred(t *testing.T) {
	for _, s := range []string{"ab", "A", "7", " a", "\n", "zz", "\xffab", "A\x00"} {
		checkCut(t, s, []string{s}, literal(s))
		checkCut(t, "abc"+s+"abc", []string{s}, literal("abc"+s+"abc"))
	}
	// One that costs more than it stands for is never used.
	for _, s := range []string{"a", " ", "\x00", "\xff\xfe", "a\x80", "\t\t\t\t\t\t\t\t\t"} {
		checkCut(t, s, []string{s}, literal(s))
	}
	// The decision is made from left to right, at the same cost.
	checkCut(t, "abcab", []string{"abc", "cab"}, literal("ab"), number(2))
	checkCut(t, "abcde", []string{"abc", "cde", "bcd"}, literal("ab"), number(2))
	checkCut(t, "aaaa", []string{"aaa"}, literal("a"), number(1))
	checkCut(t, "\x00~\x00", []string{"\x00~\x00", "~\x00", "~"}, literal("\x00"), number(2))
	checkCut(t, "\x00~\x00", []string{"\x00~\x00", "~"}, literal("\x00"), number(2), literal("\x00"))
	checkCut(t, "\x00~\x00~\x00", []string{"\x00~\x00"}, literal("\x00~"), number(1))
}

func TestPromise7_2SmallestNumberIsPreferred(t *testing.T) {
	checkCut(t, "hat", []string{"hat", "hat"}, number(1))
	checkCut(t, "hat", []string{"cat", "hat", "hat", "hat"}, number(2))
	checkCut(t, "hat and hat", []string{"", "hat", "hat"}, number(2), literal(" and "), number(2))
	// Two divisions of the same cost begin with different abbreviations: "AB" and "CDE", or "ABC" and "DE".
	checkCut(t, "ABCDE", []string{"AB", "CDE", "ABC", "DE"}, number(1), number(2))
	checkCut(t, "ABCDE", []string{"ABC", "CDE", "AB", "DE"}, number(1), number(4))
	checkCut(t, "ABCDE", []string{"DE", "CDE", "ABC", "AB"}, number(3), number(1))
	checkCut(t, "ABCDE", []string{"DE", "AB", "ABC", "CDE"}, number(2), number(4))
	// A number that is smaller does not count if it costs more.
	checkCut(t, "ABCDE", []string{"AB", "ABCDE"}, number(2))
}

func TestPromise7_2IgnoredAbbreviations(t *testing.T) {
	checkCut(t, "hat", []string{"", "hat"}, number(2))
	checkCut(t, "hat", []string{"", ""}, literal("hat"))
	for _, n := range []int{1, 2, 31, 32, 33, 34, 100} {
		abbrevs := append(make([]string, n-1), "hat")
		want := number(n)
		if n > mostAbbrevs {
			want = literal("hat")
		}
		checkCut(t, "hat", abbrevs, want)
		checkCut(t, "a hat!", append(abbrevs, "hat!", "a hat!"), definedCut("a hat!", append(abbrevs, "hat!", "a hat!"))...)
	}
	checkCut(t, "hat", append(slices.Repeat([]string{"cat"}, 31), "hat", "hat"), number(32))
	checkCut(t, "hat", append(slices.Repeat([]string{"cat"}, 32), "hat", "hat"), literal("hat"))
	for n, s := range distinct(40) {
		want := number(n + 1)
		if n >= mostAbbrevs {
			want = literal(s)
		}
		checkCut(t, s, distinct(40), want)
	}
}

func TestPromise7_2PiecesOfLiteralBytes(t *testing.T) {
	for _, texts := range collections() {
		abbrevs := abbrev.Choose(texts, mostAbbrevs)
		for _, s := range texts {
			wasLiteral := false
			for _, piece := range abbrev.Cut(s, abbrevs) {
				isLiteral := piece.Abbr == 0
				if isLiteral != (piece.Text != "") || isLiteral && wasLiteral {
					t.Fatalf("Cut(%q, %q) has the piece %+v", s, abbrevs, piece)
				}
				wasLiteral = isLiteral
			}
		}
	}
	for c := range 256 {
		s := string([]byte{byte(c)})
		checkCut(t, s, []string{"~~", "abc"}, literal(s))
		checkCut(t, s+"abc"+s+s, []string{"~~~", "abc"}, literal(s), number(2), literal(s+s))
	}
}

func TestPromise7_2LongTexts(t *testing.T) {
	s := strings.Repeat("a", 1<<17)
	pieces := abbrev.Cut(s, []string{"aaa", "aaaaaaa", strings.Repeat("a", 1<<16)})
	if !slices.Equal(pieces, []api.Piece{number(3), number(3)}) {
		t.Fatal(len(pieces), "pieces")
	}
	checkCut(t, s+"b", []string{"cc"}, literal(s+"b"))
}

func TestPromise7_3CostIsTheSum(t *testing.T) {
	checkCost(t, nil, nil, 0)
	checkCost(t, []api.Piece{}, []string{"the "}, 0)
	checkCost(t, []api.Piece{number(1), literal("hat")}, []string{"the "}, 5)
	checkCost(t, []api.Piece{{}}, nil, 0)
	checkCost(t, []api.Piece{literal("a"), literal("B"), literal("~"), literal(""), literal("7 \n")}, nil, 1+2+3+0+5)
	checkCost(t, []api.Piece{literal("a\tb\x00\xff")}, nil, 2)
	checkCost(t, []api.Piece{literal(strings.Repeat("~", 5000))}, nil, 15000)
	for c := range 256 {
		s := string([]byte{byte(c)})
		checkCost(t, []api.Piece{literal(s), number(1), literal(s)}, []string{"x"}, 2+2*definedCost(s))
	}
}

func TestPromise7_3CostOfAbbreviationsThatDoNotExist(t *testing.T) {
	for _, abbrevs := range [][]string{nil, {"a"}, slices.Repeat([]string{"the "}, 40)} {
		for _, n := range []int{1, 2, 31, 32, 33, 40, 41, math.MaxInt32, math.MaxInt} {
			checkCost(t, []api.Piece{number(n)}, abbrevs, 2)
			checkCost(t, []api.Piece{number(n), literal("a"), number(n)}, abbrevs, 5)
			// The text of an abbreviation's piece is ignored.
			checkCost(t, []api.Piece{{Text: "~~~~", Abbr: n}}, abbrevs, 2)
		}
		for _, n := range []int{0, -1, -2, -32, math.MinInt32, math.MinInt} {
			checkCost(t, []api.Piece{{Text: "~a", Abbr: n}}, abbrevs, 4)
			checkCost(t, []api.Piece{{Abbr: n}}, abbrevs, 0)
		}
	}
}

func TestPromise7_3JoinExamples(t *testing.T) {
	abbrevs := []string{"the ", "", "hat"}
	checkJoin(t, nil, nil, "", api.OK)
	checkJoin(t, nil, abbrevs, "", api.OK)
	checkJoin(t, []api.Piece{{}}, nil, "", api.OK)
	checkJoin(t, []api.Piece{literal("the "), literal(""), literal("cat")}, nil, "the cat", api.OK)
	checkJoin(t, []api.Piece{number(1), literal("cat")}, abbrevs, "the cat", api.OK)
	checkJoin(t, []api.Piece{number(1), number(2), number(3), number(1), number(3)}, abbrevs, "the hatthe hat", api.OK)
	checkJoin(t, []api.Piece{number(2)}, abbrevs, "", api.OK)
	// The text of an abbreviation's piece is ignored.
	checkJoin(t, []api.Piece{{Text: "a ", Abbr: 1}, {Text: "cat", Abbr: 3}}, abbrevs, "the hat", api.OK)
	// Any bytes are joined.
	checkJoin(t, []api.Piece{literal("\x00\xff"), number(1)}, []string{"\xfe\n"}, "\x00\xff\xfe\n", api.OK)
	checkJoin(t, []api.Piece{number(2)}, abbrevs[:1], "", api.ErrNone)
}

func TestPromise7_3JoinRefusesWhatDoesNotExist(t *testing.T) {
	for _, length := range []int{0, 1, 2, 31, 32, 33, 34, 100} {
		abbrevs := slices.Repeat([]string{"the "}, length)
		for _, n := range []int{-33, -32, -2, -1, 1, 2, 3, 30, 31, 32, 33, 34, 99, 100, 101, 1 << 32, -1 << 32, math.MinInt32, math.MaxInt32, math.MinInt, math.MaxInt} {
			want, wantErr := "the ", api.OK
			if n < 1 || n > length || n > 32 {
				want, wantErr = "", api.ErrNone
			}
			checkJoin(t, []api.Piece{number(n)}, abbrevs, want, wantErr)
			checkJoin(t, []api.Piece{{Text: "~", Abbr: n}}, abbrevs, want, wantErr)
			if wantErr == api.OK {
				checkJoin(t, []api.Piece{literal("in "), number(n), literal("hat")}, abbrevs, "in the hat", api.OK)
				continue
			}
			checkJoin(t, []api.Piece{literal("in "), number(n), literal("hat")}, abbrevs, "", api.ErrNone)
			checkJoin(t, []api.Piece{literal("in the hat"), number(n)}, abbrevs, "", api.ErrNone)
			checkJoin(t, []api.Piece{number(n), literal("in the hat")}, abbrevs, "", api.ErrNone)
		}
	}
}

func TestPromise7_4JoinRestoresTheText(t *testing.T) {
	for _, texts := range collections() {
		chosen := abbrev.Choose(texts, mostAbbrevs)
		for _, abbrevs := range [][]string{nil, chosen, {"", "a", "~~", "\x00", "the "}, texts} {
			for _, s := range texts {
				checkJoin(t, abbrev.Cut(s, abbrevs), abbrevs, s, api.OK)
			}
		}
	}
}

// total is the cost of the texts, cut with the abbreviations, and of the abbreviations themselves.
func total(texts, abbrevs []string) int {
	sum := definedCost(strings.Join(abbrevs, ""))
	for _, s := range texts {
		sum += abbrev.Cost(abbrev.Cut(s, abbrevs), abbrevs)
	}
	return sum
}

func TestPromise7_4ChoosingNeverCostsMore(t *testing.T) {
	for _, texts := range collections() {
		for _, most := range []int{0, 1, 2, 5, 31, mostAbbrevs} {
			abbrevs := abbrev.Choose(texts, most)
			with, plain := total(texts, abbrevs), definedCost(strings.Join(texts, ""))
			if with > plain || len(abbrevs) > 0 && with == plain {
				t.Fatalf("%q with %q: %d codes, %d without", texts, abbrevs, with, plain)
			}
		}
	}
}

func TestPromise7_4FewerAbbreviationsAreNeverCheaper(t *testing.T) {
	for _, texts := range collections() {
		lists := [][]string{abbrev.Choose(texts, mostAbbrevs), texts, {"abc", "~", "", "ab~", "the ", "aa", "\x00"}, distinct(40)}
		for _, s := range texts {
			for _, abbrevs := range lists {
				least := definedCost(s)
				for n := range len(abbrevs) + 1 {
					cost := abbrev.Cost(abbrev.Cut(s, abbrevs[:n]), abbrevs[:n])
					if cost > least {
						t.Fatalf("Cut(%q, %q) costs %d, but %d with fewer", s, abbrevs[:n], cost, least)
					}
					least = cost
				}
			}
		}
	}
}

// R3: the arguments stay as they are, and what is returned shares no memory with them or with another result.
func TestResultsAreNewMemory(t *testing.T) {
	for _, texts := range collections() {
		roomy := append(make([]string, 0, len(texts)+8), texts...)
		chosen, again := abbrev.Choose(roomy, mostAbbrevs), abbrev.Choose(roomy, mostAbbrevs)
		for i := range chosen {
			chosen[i] += "!"
		}
		unused := roomy[len(roomy):cap(roomy)]
		if !slices.Equal(roomy, texts) || !slices.Equal(unused, make([]string, 8)) {
			t.Fatalf("Choose changes %q", texts)
		}
		for _, s := range texts {
			pieces, second := abbrev.Cut(s, again), abbrev.Cut(s, again)
			kept := slices.Clone(second)
			for i := range pieces {
				pieces[i] = api.Piece{Text: "!", Abbr: 7}
			}
			checkJoin(t, second, again, s, api.OK)
			if !slices.Equal(second, kept) {
				t.Fatalf("Cut(%q, %q) shares memory", s, again)
			}
		}
		checkChoose(t, texts, mostAbbrevs, again...)
	}
}

// P1 and R4: the same arguments give the same results, whatever was called in between.
func TestCallsRememberNothing(t *testing.T) {
	list := collections()
	first := make([][]string, len(list))
	for i, texts := range list {
		first[i] = abbrev.Choose(texts, mostAbbrevs)
	}
	for i, texts := range slices.Backward(list) {
		checkJoin(t, []api.Piece{number(1)}, nil, "", api.ErrNone)
		checkCut(t, "the hat", []string{"the "}, number(1), literal("hat"))
		checkChoose(t, texts, mostAbbrevs, first[i]...)
	}
}

// P1: as many texts as a pool has, of the greatest length, are gone through in a bearable time.
func TestManyTexts(t *testing.T) {
	texts := slices.Repeat([]string{strings.Repeat("a", 1024)}, 4096)
	checkChoose(t, texts, mostAbbrevs, "aaaaaaaa")
	next := numbers()
	words := []string{"You ", "can't ", "see ", "the ", "lamp", ", ", "the ", "door ", "is ", "closed", ". ", "There is ", "a ", "small "}
	texts = nil
	for range 1000 {
		var b strings.Builder
		for range 12 {
			b.WriteString(words[next(len(words))])
		}
		texts = append(texts, b.String())
	}
	abbrevs := abbrev.Choose(texts, mostAbbrevs)
	if plain := definedCost(strings.Join(texts, "")); total(texts, abbrevs) > plain*6/10 {
		t.Fatal(abbrevs, total(texts, abbrevs), plain)
	}
}

// FuzzPromise7 checks any texts and abbreviations against the definitions.
func FuzzPromise7(f *testing.F) {
	f.Add("the lamp", "the box", "the key", 1)
	f.Add("~~~", "abcabcabc", "", 32)
	f.Add("\x00~\x00", "\x00~", "~\x00", 2)
	f.Fuzz(func(t *testing.T, a, b, c string, most int) {
		if len(a)+len(b)+len(c) > 300 {
			return
		}
		texts := []string{a, b, c}
		chosen := abbrev.Choose(texts, most)
		checkChoose(t, texts, most, definedChoose(texts, most)...)
		for _, abbrevs := range [][]string{chosen, {b, c, b}} {
			for _, s := range texts {
				pieces := abbrev.Cut(s, abbrevs)
				checkCost(t, pieces, abbrevs, definedLeast(s, abbrevs))
				checkJoin(t, pieces, abbrevs, s, api.OK)
				if len(s) <= 10 {
					checkCut(t, s, abbrevs, definedCut(s, abbrevs)...)
				}
			}
		}
	})
}
