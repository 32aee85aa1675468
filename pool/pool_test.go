package pool_test

import (
	"math"
	"slices"
	"strings"
	"testing"

	"clew/abbrev"
	"clew/api"
	"clew/pool"
)

// The limits that the chapter names.
const (
	mostTexts   = 4096
	mostBytes   = 1024
	mostAbbrevs = 31
)

// symbols are the bytes behind the code 28, by their indexes.
const symbols = "0123456789.,!?'\"-:;()/&*+=%#$\n<"

// isText reports whether s is a text by chapter 4.
func isText(s string) bool {
	for i := range len(s) {
		if s[i] != '\n' && (s[i] < ' ' || s[i] > '~') {
			return false
		}
	}
	return len(s) <= mostBytes
}

// byteCodes is the codes of the byte c of a text by chapter 6.
func byteCodes(c byte) []int {
	index := strings.IndexByte(symbols, c)
	switch {
	case c == ' ':
		return []int{0}
	case 'a' <= c && c <= 'z':
		return []int{int(c) - 96}
	case 'A' <= c && c <= 'Z':
		return []int{27, int(c) - 64}
	case index >= 0:
		return []int{28, index}
	}
	return []int{29, int(c >> 4), int(c & 15)}
}

// literalCodes is the codes of the bytes of s.
func literalCodes(s string) []int {
	var codes []int
	for i := range len(s) {
		codes = append(codes, byteCodes(s[i])...)
	}
	return codes
}

// packed is codes, bit by bit, with an end code and zero bits behind them.
func packed(codes ...int) []byte {
	var bits []byte
	for _, code := range append(slices.Clone(codes), 31) {
		for power := 16; power > 0; power /= 2 {
			bits = append(bits, byte(code/power%2))
		}
	}
	for len(bits)%8 != 0 {
		bits = append(bits, 0)
	}
	var b []byte
	for ; len(bits) > 0; bits = bits[8:] {
		c := byte(0)
		for _, bit := range bits[:8] {
			c = 2*c + bit
		}
		b = append(b, c)
	}
	return b
}

// unpacked is the codes before the end code, or the error of bytes that do not end as they should.
func unpacked(b []byte) ([]int, api.Errno) {
	var bits []int
	for _, c := range b {
		for power := 128; power > 0; power /= 2 {
			bits = append(bits, int(c)/power%2)
		}
	}
	var codes []int
	for ; len(bits) >= 5; bits = bits[5:] {
		code := 16*bits[0] + 8*bits[1] + 4*bits[2] + 2*bits[3] + bits[4]
		if code < 31 {
			codes = append(codes, code)
			continue
		}
		switch behind := bits[5:]; {
		case len(behind) >= 8:
			return nil, api.ErrLong
		case slices.Contains(behind, 1):
			return nil, api.ErrForm
		}
		return codes, api.OK
	}
	return nil, api.ErrShort
}

// definedMake is Make by its definition.
func definedMake(texts []string) (api.Pool, api.Errno) {
	if len(texts) > mostTexts {
		return api.Pool{}, api.ErrCount
	}
	for _, s := range texts {
		if !isText(s) {
			return api.Pool{}, api.ErrText
		}
	}
	p := api.Pool{Abbrevs: abbrev.Choose(texts, mostAbbrevs)}
	for _, s := range texts {
		var codes []int
		for _, piece := range abbrev.Cut(s, p.Abbrevs) {
			if piece.Abbr > 0 {
				codes = append(codes, 30, piece.Abbr-1)
			} else {
				codes = append(codes, literalCodes(piece.Text)...)
			}
		}
		p.At = append(p.At, len(p.Bytes))
		p.Bytes = append(p.Bytes, packed(codes...)...)
	}
	return p, api.OK
}

// groups are codes divided into those that belong together; ok is false if some are missing in the last group.
func groups(codes []int) (list [][]int, ok bool) {
	for len(codes) > 0 {
		length := 1
		if codes[0] >= 27 {
			length = 2
		}
		if codes[0] == 29 {
			length = 3
		}
		if length > len(codes) {
			return append(list, codes), false
		}
		list = append(list, codes[:length])
		codes = codes[length:]
	}
	return list, true
}

// literalText is the text of groups without abbreviations: the bytes each of which has the codes of its group.
func literalText(list [][]int) (string, bool) {
	var b []byte
	for _, group := range list {
		found := false
		for c := range 127 {
			if (c == '\n' || c >= ' ') && slices.Equal(byteCodes(byte(c)), group) {
				b, found = append(b, byte(c)), true
			}
		}
		if !found {
			return "", false
		}
	}
	return string(b), len(b) <= mostBytes
}

// definedText is Text by its definition.
func definedText(p api.Pool, i int) (string, api.Errno) {
	if i < 0 || i >= len(p.At) {
		return "", api.ErrNone
	}
	offsets := append(slices.Clone(p.At), len(p.Bytes))
	start, end := offsets[i], offsets[i+1]
	if min(start, end) < 0 || max(start, end) > len(p.Bytes) || start > end {
		return "", api.ErrRange
	}
	codes, err := unpacked(p.Bytes[start:end])
	if err != api.OK {
		return "", err
	}
	list, complete := groups(codes)
	text := ""
	for len(list) > 0 {
		next := slices.IndexFunc(list, func(group []int) bool { return group[0] == 30 })
		if next < 0 {
			next = len(list)
		}
		s, ok := literalText(list[:next])
		if !ok {
			return "", api.ErrCode
		}
		text += s
		list = list[next:]
		if len(list) == 0 {
			break
		}
		if len(list[0]) < 2 {
			return "", api.ErrCode
		}
		if list[0][1] >= len(p.Abbrevs) {
			return "", api.ErrNone
		}
		text += p.Abbrevs[list[0][1]]
		list = list[1:]
	}
	switch {
	case !complete:
		return "", api.ErrCode
	case !isText(text):
		return "", api.ErrText
	}
	return text, api.OK
}

// definedAll is All by its definition.
func definedAll(p api.Pool) ([]string, api.Errno) {
	var texts []string
	for i := range p.At {
		s, err := definedText(p, i)
		if err != api.OK {
			return nil, err
		}
		texts = append(texts, s)
	}
	return texts, api.OK
}

// definedRight is Right by its definition.
func definedRight(p api.Pool) bool {
	texts, err := definedAll(p)
	if err != api.OK {
		return false
	}
	made, err := definedMake(texts)
	return err == api.OK && samePool(made, p)
}

func samePool(a, b api.Pool) bool {
	return slices.Equal(a.Abbrevs, b.Abbrevs) && slices.Equal(a.At, b.At) && slices.Equal(a.Bytes, b.Bytes)
}

func clonePool(p api.Pool) api.Pool {
	return api.Pool{Abbrevs: slices.Clone(p.Abbrevs), At: slices.Clone(p.At), Bytes: slices.Clone(p.Bytes)}
}

// one is a pool of one text, whose codes are given.
func one(abbrevs []string, codes ...int) api.Pool {
	return api.Pool{Abbrevs: abbrevs, At: []int{0}, Bytes: packed(codes...)}
}

// letters is n times the code 1.
func letters(n int) []int { return slices.Repeat([]int{1}, n) }

// numbers returns ever the same numbers below n.
func numbers() func(n int) int {
	state := uint64(20261119)
	return func(n int) int {
		state = state*6364136223846793005 + 1442695040888963407
		return int(state >> 33 % uint64(n))
	}
}

// distinct are n texts of four times the same byte each: no two of them have a byte in common.
func distinct(n int) []string {
	list := make([]string, n)
	for i := range list {
		list[i] = strings.Repeat(string([]byte{byte('!' + i)}), 4)
	}
	return list
}

// collections are lists of texts: none, empty ones, the same ones, ordinary ones, and ones that give no, some and all abbreviations.
func collections() [][]string {
	printable := "\n"
	for c := byte(' '); c <= '~'; c++ {
		printable += string([]byte{c})
	}
	list := [][]string{
		nil,
		{},
		{""},
		{"", "", ""},
		{"a"},
		{"lamp", "oil lamp"},
		{"a B<", "~", "\n"},
		{"the lamp", "the box", "the key"},
		{"the ", "the the ", "in the ", "in the box", "the the the lamp", "", "the"},
		{"the brass lamp", "", "the brass key", "A~\n", "the brass lamp"},
		{"You are in a maze of twisty little passages, all alike.", "You are in a maze of twisty little passages, all different.", "You are in a little maze of twisting passages, all different."},
		{"The lamp is now on.", "The lamp is now off.", "The door is now open.", "The door is now closed.", "You can't go that way.", "You can't see that here.", "You can't do that.", "Taken.", "Dropped."},
		{printable, printable},
		strings.Split(printable, ""),
		{strings.Repeat("a", mostBytes), strings.Repeat("~", mostBytes), strings.Repeat("aB1~\n", mostBytes)[:mostBytes]},
		slices.Repeat([]string{"same"}, 300),
	}
	for _, n := range []int{1, 2, 30, 31, 32, 33, 40, 94} {
		list = append(list, slices.Repeat(distinct(n), 2))
	}
	next := numbers()
	for range 200 {
		var texts []string
		for range next(8) {
			b := make([]byte, next(30))
			for i := range b {
				b[i] = "ab~ A1\n|"[next(2+next(7))]
			}
			texts = append(texts, string(b))
		}
		list = append(list, texts)
	}
	return list
}

// made is the pool of texts.
func made(t *testing.T, texts []string) api.Pool {
	t.Helper()
	p, err := pool.Make(texts)
	if err != api.OK {
		t.Fatalf("Make(%.200q): error %d", texts, int(err))
	}
	return p
}

func checkMake(t *testing.T, texts []string, want api.Pool, wantErr api.Errno) {
	t.Helper()
	if got, err := pool.Make(texts); !samePool(got, want) || err != wantErr {
		t.Fatalf("Make(%.200q) = %+v, error %d, want %+v, error %d", texts, got, int(err), want, int(wantErr))
	}
}

func checkText(t *testing.T, p api.Pool, i int, want string, wantErr api.Errno) {
	t.Helper()
	if got, err := pool.Text(p, i); got != want || err != wantErr {
		t.Fatalf("Text(%+v, %d) = %.200q, error %d, want %.200q, error %d", p, i, got, int(err), want, int(wantErr))
	}
}

func checkAll(t *testing.T, p api.Pool, want []string, wantErr api.Errno) {
	t.Helper()
	if got, err := pool.All(p); !slices.Equal(got, want) || err != wantErr {
		t.Fatalf("All(%+v) = %.200q, error %d, want %.200q, error %d", p, got, int(err), want, int(wantErr))
	}
}

func checkRight(t *testing.T, p api.Pool, want bool) {
	t.Helper()
	if got := pool.Right(p); got != want {
		t.Fatalf("Right(%+v) = %v", p, got)
	}
}

// checkFault checks that the only text of p has an error.
func checkFault(t *testing.T, p api.Pool, want api.Errno) {
	t.Helper()
	checkText(t, p, 0, "", want)
	checkAll(t, p, nil, want)
	checkRight(t, p, false)
}

// checkDefined checks all calls for p against their definitions.
func checkDefined(t *testing.T, p api.Pool) {
	t.Helper()
	if got := pool.Count(p); got != len(p.At) {
		t.Fatalf("Count(%+v) = %d", p, got)
	}
	for i := -1; i <= len(p.At); i++ {
		want, wantErr := definedText(p, i)
		checkText(t, p, i, want, wantErr)
	}
	want, wantErr := definedAll(p)
	checkAll(t, p, want, wantErr)
	checkRight(t, p, definedRight(p))
}

func TestPromise8_1Examples(t *testing.T) {
	checkMake(t, []string{"lamp", "oil lamp"}, api.Pool{At: []int{0, 4}, Bytes: []byte{0x60, 0x5b, 0x0f, 0x80, 0x7a, 0x58, 0x06, 0x05, 0xb0, 0xf8}}, api.OK)
	checkMake(t, []string{"a\tb"}, api.Pool{}, api.ErrText)
	checkMake(t, nil, api.Pool{}, api.OK)
	checkMake(t, []string{}, api.Pool{}, api.OK)
	checkMake(t, []string{""}, api.Pool{At: []int{0}, Bytes: []byte{0xf8}}, api.OK)
	checkMake(t, []string{"", "a", ""}, api.Pool{At: []int{0, 1, 3}, Bytes: []byte{0xf8, 15, 192, 0xf8}}, api.OK)
}

func TestPromise8_1AbbreviationsAreTheCode30AndTheirNumberMinus1(t *testing.T) {
	want := api.Pool{Abbrevs: []string{"the "}}
	for _, codes := range [][]int{{30, 0, 12, 1, 13, 16}, {30, 0, 2, 15, 24}, {9, 14, 0, 30, 0, 11, 5, 25}, {30, 0, 30, 0}} {
		want.At = append(want.At, len(want.Bytes))
		want.Bytes = append(want.Bytes, packed(codes...)...)
	}
	checkMake(t, []string{"the lamp", "the box", "in the key", "the the "}, want, api.OK)
	want = api.Pool{Abbrevs: []string{"abcdefgh", "12345"}, At: []int{0, 5}}
	want.Bytes = append(packed(30, 0, 30, 1, 30, 0), packed(30, 0, 30, 1, 30, 0)...)
	checkMake(t, slices.Repeat([]string{"abcdefgh12345abcdefgh"}, 2), want, api.OK)
}

func TestPromise8_1IsAsDefined(t *testing.T) {
	for _, texts := range collections() {
		want, err := definedMake(texts)
		checkMake(t, texts, want, err)
	}
}

func TestPromise8_1NumberOfTexts(t *testing.T) {
	for _, s := range []string{"", "a", "a text", "the ~"} {
		texts := slices.Repeat([]string{s}, mostTexts)
		want, err := definedMake(texts)
		if len(want.At) != mostTexts {
			t.Fatal(len(want.At))
		}
		checkMake(t, texts, want, err)
		checkMake(t, append(texts, s), api.Pool{}, api.ErrCount)
		checkMake(t, append(texts, texts...), api.Pool{}, api.ErrCount)
	}
}

func TestPromise8_1TooManyTextsAreMetBeforeOneThatIsNone(t *testing.T) {
	for _, at := range []int{0, 1, mostTexts - 1, mostTexts} {
		texts := make([]string, mostTexts+1)
		texts[at] = "\t"
		checkMake(t, texts, api.Pool{}, api.ErrCount)
		if at < mostTexts {
			checkMake(t, texts[:mostTexts], api.Pool{}, api.ErrText)
		}
	}
}

func TestPromise8_1TextsThatAreNone(t *testing.T) {
	strange := []string{strings.Repeat("a", mostBytes+1), strings.Repeat("~", mostBytes+1), strings.Repeat("\n", 5000), "caf\xc3\xa9", "a\r\n"}
	for c := range 256 {
		if c != '\n' && (c < ' ' || c > '~') {
			strange = append(strange, string([]byte{byte(c)}), "a"+string([]byte{byte(c)})+"b")
		}
	}
	for _, s := range strange {
		checkMake(t, []string{s}, api.Pool{}, api.ErrText)
		checkMake(t, []string{s, "a", "b"}, api.Pool{}, api.ErrText)
		checkMake(t, []string{"a", s, "b"}, api.Pool{}, api.ErrText)
		checkMake(t, []string{"a", "b", s}, api.Pool{}, api.ErrText)
	}
	longest := made(t, []string{strings.Repeat("a", mostBytes), strings.Repeat("ab~\n", mostBytes/4)})
	checkText(t, longest, 0, strings.Repeat("a", mostBytes), api.OK)
	checkText(t, longest, 1, strings.Repeat("ab~\n", mostBytes/4), api.OK)
}

func TestPromise8_1AtMost31Abbreviations(t *testing.T) {
	for _, n := range []int{0, 1, 30, 31, 32, 40, 94} {
		texts := slices.Repeat(distinct(n), 2)
		p := made(t, texts)
		if len(p.Abbrevs) != min(n, mostAbbrevs) {
			t.Fatal(len(p.Abbrevs), "of", n)
		}
		if most := abbrev.Choose(texts, mostAbbrevs); !slices.Equal(p.Abbrevs, most) {
			t.Fatal(p.Abbrevs, most)
		}
		for i, abbr := range p.Abbrevs {
			at := slices.Index(texts, abbr+abbr)
			if at < 0 {
				at = slices.Index(texts, abbr)
			}
			if at < 0 {
				t.Fatal(abbr, "is no text")
			}
			codes, _ := unpacked(p.Bytes[p.At[at]:p.At[at+1]])
			if len(codes)%2 != 0 || codes[0] != 30 || codes[1] != i {
				t.Fatal(abbr, codes)
			}
		}
	}
}

func TestPromise8_2Examples(t *testing.T) {
	p := made(t, []string{"lamp", "oil lamp"})
	checkText(t, p, 0, "lamp", api.OK)
	checkText(t, p, 1, "oil lamp", api.OK)
	checkText(t, p, 2, "", api.ErrNone)
	checkFault(t, api.Pool{At: []int{5}}, api.ErrRange)
}

func TestPromise8_2CountIsTheLengthOfAt(t *testing.T) {
	for _, n := range []int{0, 1, 2, 100, mostTexts, mostTexts + 1, 3 * mostTexts} {
		if got := pool.Count(api.Pool{At: make([]int, n)}); got != n {
			t.Fatal(n, got)
		}
		if got := pool.Count(api.Pool{At: make([]int, n), Bytes: []byte{1, 2, 3}, Abbrevs: []string{"a", "b"}}); got != n {
			t.Fatal(n, got)
		}
	}
	if got := pool.Count(api.Pool{Bytes: []byte{0xf8}, Abbrevs: []string{"a"}}); got != 0 {
		t.Fatal(got)
	}
}

func TestPromise8_2NoSuchText(t *testing.T) {
	for _, texts := range [][]string{nil, {""}, {"a"}, {"lamp", "oil lamp"}} {
		p := made(t, texts)
		n := len(texts)
		for _, i := range []int{math.MinInt, math.MinInt32, -2, -1, n, n + 1, 99, math.MaxInt32, math.MaxInt - 1, math.MaxInt} {
			checkText(t, p, i, "", api.ErrNone)
		}
	}
	// Also where other texts have errors, or could have them.
	checkText(t, api.Pool{At: []int{7, -1}}, 2, "", api.ErrNone)
	checkText(t, api.Pool{Bytes: packed(1)}, 0, "", api.ErrNone)
}

func TestPromise8_2OffsetsOutsideTheBytes(t *testing.T) {
	b := packed(12, 1, 13, 16)
	for _, at := range []int{math.MinInt, math.MinInt32, -1, len(b) + 1, 99, math.MaxInt32, math.MaxInt} {
		checkFault(t, api.Pool{At: []int{at}, Bytes: b}, api.ErrRange)
		checkFault(t, api.Pool{At: []int{at, at}, Bytes: b}, api.ErrRange)
		checkFault(t, api.Pool{At: []int{at, 0}, Bytes: b}, api.ErrRange)
		checkFault(t, api.Pool{At: []int{0, at}, Bytes: b}, api.ErrRange)
	}
	for _, at := range []int{math.MinInt, -1, 1, 5, math.MaxInt} {
		checkFault(t, api.Pool{At: []int{at}}, api.ErrRange)
	}
	// Without a text behind it, the end of the bytes counts; with one, its offset alone.
	checkText(t, api.Pool{At: []int{0}, Bytes: b}, 0, "lamp", api.OK)
	checkText(t, api.Pool{At: []int{0, len(b)}, Bytes: b}, 0, "lamp", api.OK)
	checkText(t, api.Pool{At: []int{0, len(b), -1}, Bytes: b}, 0, "lamp", api.OK)
	checkText(t, api.Pool{At: []int{-1, 0}, Bytes: b}, 1, "lamp", api.OK)
	checkText(t, api.Pool{At: []int{99, 0, len(b), 99}, Bytes: b}, 1, "lamp", api.OK)
}

func TestPromise8_2OffsetsInTheWrongOrder(t *testing.T) {
	b := append(packed(12, 1, 13, 16), packed(2)...)
	second := len(packed(12, 1, 13, 16))
	p := api.Pool{At: []int{second, 0}, Bytes: b}
	checkFault(t, p, api.ErrRange)
	checkText(t, p, 1, "", api.ErrLong)
	p = api.Pool{At: []int{0, second, second - 1}, Bytes: b}
	checkText(t, p, 0, "lamp", api.OK)
	checkText(t, p, 1, "", api.ErrRange)
	checkText(t, api.Pool{At: []int{1, 0}, Bytes: b}, 0, "", api.ErrRange)
}

func TestPromise8_2TextsWithoutBytes(t *testing.T) {
	checkFault(t, api.Pool{At: []int{0}}, api.ErrShort)
	b := packed(12, 1, 13, 16)
	checkFault(t, api.Pool{At: []int{len(b)}, Bytes: b}, api.ErrShort)
	checkFault(t, api.Pool{At: []int{0, 0}, Bytes: b}, api.ErrShort)
	checkText(t, api.Pool{At: []int{0, 0}, Bytes: b}, 1, "lamp", api.OK)
	checkText(t, api.Pool{At: []int{0, len(b)}, Bytes: b}, 1, "", api.ErrShort)
}

func TestPromise8_2BytesThatDoNotEndAsTheyShould(t *testing.T) {
	b := packed(12, 1, 13, 16)
	for length := range b {
		checkFault(t, api.Pool{At: []int{0}, Bytes: b[:length]}, api.ErrShort)
		checkFault(t, api.Pool{At: []int{0, length}, Bytes: b}, api.ErrShort)
		checkDefined(t, api.Pool{At: []int{length}, Bytes: b})
	}
	checkFault(t, api.Pool{At: []int{0}, Bytes: append(b, 0)}, api.ErrLong)
	checkFault(t, api.Pool{At: []int{0}, Bytes: append(b, 1)}, api.ErrLong)
	for bit := range 7 {
		wrong := slices.Clone(b)
		wrong[len(b)-1] |= 1 << bit
		checkFault(t, api.Pool{At: []int{0}, Bytes: wrong}, api.ErrForm)
	}
	checkFault(t, api.Pool{At: []int{0}, Bytes: []byte{0xf9}}, api.ErrForm)
	checkFault(t, api.Pool{At: []int{0}, Bytes: []byte{0xf8, 0}}, api.ErrLong)
	checkFault(t, api.Pool{At: []int{0}, Bytes: []byte{0xf9, 0}}, api.ErrLong)
}

func TestPromise8_2CodesThatLack(t *testing.T) {
	for _, front := range [][]int{nil, {1, 2}, {30, 0}, {28, 30}, {27, 1, 29, 7, 14}} {
		for _, codes := range [][]int{{27}, {28}, {29}, {30}, {29, 7}, {29, 30}, {29, 29}, {30, 0, 27}, {30, 0, 30}} {
			checkFault(t, one([]string{"the "}, append(slices.Clone(front), codes...)...), api.ErrCode)
		}
	}
}

func TestPromise8_2CodesThatStandForNoText(t *testing.T) {
	for _, codes := range [][]int{
		{27, 0}, {27, 27}, {27, 28}, {27, 30}, {27, 30, 5}, {27, 29, 1},
		{29, 0, 9}, {29, 0, 10}, {29, 2, 0}, {29, 6, 1}, {29, 7, 15}, {29, 8, 0}, {29, 7, 30}, {29, 30, 30}, {29, 30, 0}, {29, 3, 30}, {29, 4, 1}, {29, 3, 0},
	} {
		checkFault(t, one(nil, codes...), api.ErrCode)
		checkFault(t, one([]string{"the "}, codes...), api.ErrCode)
		checkFault(t, one([]string{"the "}, append([]int{1, 30, 0, 2}, codes...)...), api.ErrCode)
		checkFault(t, one([]string{"the "}, append(slices.Clone(codes), 1, 30, 0)...), api.ErrCode)
		checkFault(t, one([]string{"the "}, append(append([]int{30, 0}, codes...), 30, 0)...), api.ErrCode)
	}
}

func TestPromise8_2EveryByteOfAText(t *testing.T) {
	for c := range 256 {
		s := string([]byte{byte(c)})
		if !isText(s) {
			checkFault(t, one(nil, 29, c/16, c%16), api.ErrCode)
			continue
		}
		p := one([]string{"the "}, append([]int{30, 0}, byteCodes(byte(c))...)...)
		checkText(t, p, 0, "the "+s, api.OK)
		checkAll(t, p, []string{"the " + s}, api.OK)
	}
}

func TestPromise8_2CodesBehindAnAnnouncingOneAreNotAbbreviations(t *testing.T) {
	// The code 30 is the index of a symbol, and 30 behind that announces an abbreviation.
	checkText(t, one(nil, 28, 30), 0, "<", api.OK)
	checkText(t, one(nil, 28, 30, 5), 0, "<e", api.OK)
	checkText(t, one([]string{"the "}, 28, 30, 30, 0), 0, "<the ", api.OK)
	checkFault(t, one([]string{"the "}, 28, 30, 30, 1), api.ErrNone)
	// The code behind 30 is a number, whatever it announces elsewhere.
	list := strings.Split("abcdefghijklmnopqrstuvwxyzABCDE", "")
	for i, s := range list {
		checkText(t, one(list, 30, i, 1), 0, s+"a", api.OK)
		checkText(t, one(list, 1, 30, i), 0, "a"+s, api.OK)
		checkText(t, one(list, 30, i, 30, i), 0, s+s, api.OK)
	}
}

func TestPromise8_2AbbreviationsThatDoNotExist(t *testing.T) {
	for n := range 36 {
		abbrevs := slices.Repeat([]string{"the "}, n)
		for code := range 31 {
			p := one(abbrevs, 9, 14, 0, 30, code, 8, 1, 20)
			if code < n {
				checkText(t, p, 0, "in the hat", api.OK)
				checkAll(t, p, []string{"in the hat"}, api.OK)
			} else {
				checkFault(t, p, api.ErrNone)
			}
		}
	}
}

func TestPromise8_2WhereAbbreviationsStand(t *testing.T) {
	abbrevs := []string{"the ", "", "~\n<"}
	for want, codes := range map[string][]int{
		"the hat":           {30, 0, 8, 1, 20},
		"hat the ":          {8, 1, 20, 0, 30, 0},
		"the ":              {30, 0},
		"the the ":          {30, 0, 30, 0},
		"the ~\n<the ":      {30, 0, 30, 2, 30, 0},
		"":                  {30, 1},
		"aThe ~":            {1, 30, 1, 27, 20, 8, 5, 0, 30, 1, 29, 7, 14},
		"\n<Bthe ~\n<~\n<C": {28, 29, 28, 30, 27, 2, 30, 0, 30, 2, 30, 2, 27, 3},
	} {
		p := one(abbrevs, codes...)
		checkText(t, p, 0, want, api.OK)
		checkAll(t, p, []string{want}, api.OK)
		checkRight(t, p, false)
	}
}

func TestPromise8_2TheFirstErrorOfAText(t *testing.T) {
	abbrevs := []string{"the ", "\t", strings.Repeat("a", 1000)}
	for _, x := range []struct {
		codes []int
		err   api.Errno
	}{
		{[]int{30, 9, 27, 0}, api.ErrNone},
		{[]int{30, 9, 27}, api.ErrNone},
		{[]int{30, 9, 29, 1}, api.ErrNone},
		{[]int{30, 9, 30}, api.ErrNone},
		{[]int{1, 30, 0, 2, 30, 9, 27, 0}, api.ErrNone},
		{[]int{30, 0, 30, 9, 30}, api.ErrNone},
		{[]int{27, 0, 30, 9}, api.ErrCode},
		{[]int{27, 0, 1, 30, 9}, api.ErrCode},
		{[]int{1, 30, 0, 27, 0, 30, 9}, api.ErrCode},
		{[]int{29, 0, 9, 30, 0, 30, 9}, api.ErrCode},
		{append(letters(mostBytes+1), 30, 9), api.ErrCode},
		{append([]int{30, 9}, letters(mostBytes+1)...), api.ErrNone},
		// What the result is, is asked last.
		{[]int{30, 1}, api.ErrText},
		{[]int{30, 1, 30, 9}, api.ErrNone},
		{[]int{30, 9, 30, 1}, api.ErrNone},
		{[]int{30, 1, 27, 0}, api.ErrCode},
		{[]int{30, 1, 27}, api.ErrCode},
		{[]int{30, 1, 30}, api.ErrCode},
		{[]int{30, 2, 30, 2}, api.ErrText},
		{[]int{30, 2, 30, 2, 27, 0}, api.ErrCode},
		{[]int{30, 2, 30, 2, 30, 2, 30, 9}, api.ErrNone},
		{[]int{30, 2, 30, 2, 30, 2, 30}, api.ErrCode},
	} {
		checkFault(t, one(abbrevs, x.codes...), x.err)
		checkDefined(t, one(abbrevs, x.codes...))
	}
}

func TestPromise8_2ErrorsOfBytesAreMetBeforeThoseOfCodes(t *testing.T) {
	for _, codes := range [][]int{{27}, {27, 0}, {30, 9}, {30, 0}} {
		p := one([]string{"\t"}, codes...)
		p.Bytes = append(p.Bytes, 0)
		checkFault(t, p, api.ErrLong)
		p = one([]string{"\t"}, codes...)
		p.Bytes[len(p.Bytes)-1] |= 1
		checkFault(t, p, api.ErrForm)
		p.Bytes = p.Bytes[:len(p.Bytes)-1]
		checkDefined(t, p)
	}
	checkFault(t, api.Pool{At: []int{0}, Bytes: []byte{0xde}}, api.ErrShort)
}

func TestPromise8_2ResultsThatAreNoTexts(t *testing.T) {
	for _, s := range []string{"\t", "\x00", "\x7f", "\xff", "caf\xc3\xa9", strings.Repeat("a", mostBytes+1), strings.Repeat("a", 1<<20)} {
		checkFault(t, one([]string{s}, 30, 0), api.ErrText)
		checkFault(t, one([]string{s}, 1, 30, 0, 1), api.ErrText)
		// What no code asks for does not matter.
		checkText(t, one([]string{s, "the "}, 30, 1), 0, "the ", api.OK)
		checkText(t, one([]string{"the ", s}, 30, 0), 0, "the ", api.OK)
	}
	half := strings.Repeat("b", mostBytes/2)
	checkText(t, one([]string{half}, 30, 0, 30, 0), 0, half+half, api.OK)
	checkFault(t, one([]string{half}, 30, 0, 1, 30, 0), api.ErrText)
	checkFault(t, one([]string{half}, 1, 30, 0, 30, 0), api.ErrText)
	checkFault(t, one([]string{half}, 30, 0, 30, 0, 1), api.ErrText)
	// Only a sequence without abbreviations that is too long by itself has no text of its own.
	checkText(t, one(nil, letters(mostBytes)...), 0, strings.Repeat("a", mostBytes), api.OK)
	checkFault(t, one(nil, letters(mostBytes+1)...), api.ErrCode)
	checkFault(t, one([]string{""}, slices.Concat(letters(1000), []int{30, 0}, letters(25))...), api.ErrText)
	checkText(t, one([]string{""}, slices.Concat(letters(1000), []int{30, 0}, letters(24))...), 0, strings.Repeat("a", mostBytes), api.OK)
}

func TestPromise8_2AllHasTheErrorOfTheFirstTextThatHasOne(t *testing.T) {
	abbrevs := []string{"\t"}
	faults := map[api.Errno][]byte{
		api.ErrShort: {1},
		api.ErrLong:  {0xf8, 0},
		api.ErrForm:  {0xf9},
		api.ErrCode:  packed(27),
		api.ErrNone:  packed(30, 9),
		api.ErrText:  packed(30, 0),
	}
	for first, front := range faults {
		for second, behind := range faults {
			p := api.Pool{Abbrevs: abbrevs}
			for _, b := range [][]byte{packed(1), packed(), front, packed(2), behind, packed(3)} {
				p.At = append(p.At, len(p.Bytes))
				p.Bytes = append(p.Bytes, b...)
			}
			for i, want := range map[int]string{0: "a", 1: "", 3: "b", 5: "c"} {
				checkText(t, p, i, want, api.OK)
			}
			checkText(t, p, 2, "", first)
			checkText(t, p, 4, "", second)
			checkAll(t, p, nil, first)
			checkRight(t, p, false)
			p.At[5] = -1
			checkAll(t, p, nil, first)
			p.At[0] = -1
			checkAll(t, p, nil, api.ErrRange)
		}
	}
	// An error in the last text is one of the whole.
	for n := range 5 {
		p := made(t, slices.Repeat([]string{"lamp"}, n))
		p.At = append(p.At, len(p.Bytes))
		p.Bytes = append(p.Bytes, 0xf9)
		checkAll(t, p, nil, api.ErrForm)
		checkRight(t, p, false)
	}
}

func TestPromise8_2AllOfMoreTextsThanAPoolHas(t *testing.T) {
	for _, n := range []int{mostTexts - 1, mostTexts, mostTexts + 1, 2 * mostTexts} {
		p := api.Pool{}
		var texts []string
		for i := range n {
			p.At = append(p.At, len(p.Bytes))
			p.Bytes = append(p.Bytes, packed(1+i%2)...)
			texts = append(texts, "ab"[i%2:i%2+1])
		}
		checkAll(t, p, texts, api.OK)
		checkRight(t, p, n <= mostTexts)
	}
}

func TestPromise8_2BytesAheadOfTheFirstText(t *testing.T) {
	p := made(t, []string{"lamp", "oil lamp"})
	p.Bytes = append([]byte{1, 2, 3}, p.Bytes...)
	for i := range p.At {
		p.At[i] += 3
	}
	checkAll(t, p, []string{"lamp", "oil lamp"}, api.OK)
	checkRight(t, p, false)
	checkRight(t, api.Pool{Bytes: []byte{0xf8}}, false)
	checkAll(t, api.Pool{Bytes: []byte{1, 2, 3}, Abbrevs: []string{"\t"}}, nil, api.OK)
	checkRight(t, api.Pool{Abbrevs: []string{"the "}}, false)
	checkRight(t, api.Pool{Abbrevs: []string{""}}, false)
}

func TestPromise8_2RightAsksForTheBytesThatMakeWrites(t *testing.T) {
	// The same texts, but without the abbreviation, with another one, or with one more.
	texts := []string{"the lamp", "the box", "the key"}
	p := made(t, texts)
	checkRight(t, p, true)
	plain := api.Pool{}
	for _, s := range texts {
		plain.At = append(plain.At, len(plain.Bytes))
		plain.Bytes = append(plain.Bytes, packed(literalCodes(s)...)...)
	}
	checkAll(t, plain, texts, api.OK)
	checkRight(t, plain, false)
	with := clonePool(p)
	with.Abbrevs = append(with.Abbrevs, "lamp")
	checkAll(t, with, texts, api.OK)
	checkRight(t, with, false)
	with = clonePool(plain)
	with.Abbrevs = slices.Clone(p.Abbrevs)
	checkAll(t, with, texts, api.OK)
	checkRight(t, with, false)
	with = clonePool(p)
	with.Abbrevs = append([]string{"lamp"}, with.Abbrevs...)
	checkAll(t, with, []string{"lamplamp", "lampbox", "lampkey"}, api.OK)
	checkRight(t, with, false)
	with = clonePool(p)
	with.Abbrevs[0] = "a "
	checkAll(t, with, []string{"a lamp", "a box", "a key"}, api.OK)
	checkRight(t, with, false)
	// An abbreviation that is chosen, but not where Cut has it.
	checkRight(t, api.Pool{Abbrevs: []string{"the "}, At: []int{0}, Bytes: packed(30, 0)}, false)
}

func TestPromise8_2PoolsThatDifferFromThoseOfMake(t *testing.T) {
	for _, texts := range collections()[:12] {
		p := made(t, texts)
		for i := range p.Bytes {
			for bit := range 8 {
				changed := clonePool(p)
				changed.Bytes[i] ^= 1 << bit
				checkDefined(t, changed)
			}
		}
		for i := range p.At {
			for _, by := range []int{-1, 1, 2, math.MaxInt, math.MinInt} {
				changed := clonePool(p)
				changed.At[i] += by
				checkDefined(t, changed)
				checkRight(t, changed, false)
			}
		}
		for i := range p.Abbrevs {
			for _, s := range []string{"", "a", "\t", p.Abbrevs[i] + "s", p.Abbrevs[i][1:]} {
				changed := clonePool(p)
				changed.Abbrevs[i] = s
				checkDefined(t, changed)
			}
		}
		for _, b := range [][]byte{{0}, {0xf8}, packed(1)} {
			changed := clonePool(p)
			changed.Bytes = append(changed.Bytes, b...)
			checkDefined(t, changed)
			checkRight(t, changed, false)
			// With an offset, the bytes are one more text, unless they are none.
			changed.At = append(changed.At, len(p.Bytes))
			checkDefined(t, changed)
		}
	}
}

func TestPromise8_2AnyPools(t *testing.T) {
	next := numbers()
	choices := []int{0, 1, 2, 26, 27, 28, 29, 30, 30, 31}
	for range 20000 {
		p := api.Pool{Abbrevs: []string{"the ", "", "~", "\t", strings.Repeat("b", 600)}[:next(6)]}
		for range 1 + next(3) {
			p.At = append(p.At, len(p.Bytes))
			var codes []int
			for range next(9) {
				codes = append(codes, choices[next(len(choices))])
			}
			p.Bytes = append(p.Bytes, packed(codes...)...)
		}
		if next(4) == 0 {
			p.Bytes[next(len(p.Bytes))] ^= byte(1 << next(8))
		}
		if next(8) == 0 {
			p.At[next(len(p.At))] += next(5) - 2
		}
		checkDefined(t, p)
	}
}

func TestPromise8_3APoolContainsItsTexts(t *testing.T) {
	for _, texts := range collections() {
		p := made(t, texts)
		if got := pool.Count(p); got != len(texts) {
			t.Fatalf("Count(%+v) = %d", p, got)
		}
		for i, s := range texts {
			checkText(t, p, i, s, api.OK)
		}
		checkAll(t, p, texts, api.OK)
		checkRight(t, p, true)
	}
}

func TestPromise8_3ManyTexts(t *testing.T) {
	next := numbers()
	words := []string{"You ", "can't ", "see ", "the ", "lamp", ", ", "the ", "door ", "is ", "closed", ". ", "There is ", "a ", "small ", "~", "\n"}
	var texts []string
	for range mostTexts {
		var b strings.Builder
		for range next(8) {
			b.WriteString(words[next(len(words))])
		}
		texts = append(texts, b.String())
	}
	p := made(t, texts)
	checkAll(t, p, texts, api.OK)
	checkRight(t, p, true)
	checkText(t, p, mostTexts-1, texts[mostTexts-1], api.OK)
	checkText(t, p, mostTexts, "", api.ErrNone)
	p.At[mostTexts/2]++
	checkRight(t, p, false)
}

// R3 and R7: nil and the empty list are the same.
func TestEmptyListsAreNil(t *testing.T) {
	checkRight(t, api.Pool{}, true)
	checkRight(t, api.Pool{Abbrevs: []string{}, At: []int{}, Bytes: []byte{}}, true)
	checkRight(t, api.Pool{Abbrevs: []string{}, At: []int{0}, Bytes: []byte{0xf8}}, true)
	checkAll(t, api.Pool{}, nil, api.OK)
	if got := pool.Count(api.Pool{}); got != 0 {
		t.Fatal(got)
	}
}

// R3: the arguments stay as they are, and what is returned shares no memory with them or with another result.
func TestResultsAreNewMemory(t *testing.T) {
	for _, texts := range collections() {
		roomy := append(make([]string, 0, len(texts)+8), texts...)
		first, second := made(t, roomy), made(t, roomy)
		for i := range first.Bytes {
			first.Bytes[i]++
		}
		for i := range first.At {
			first.At[i]++
		}
		for i := range first.Abbrevs {
			first.Abbrevs[i] += "!"
		}
		if !slices.Equal(roomy, texts) || !slices.Equal(roomy[len(roomy):cap(roomy)], make([]string, 8)) {
			t.Fatalf("Make changes %q", texts)
		}
		before := clonePool(second)
		list, _ := pool.All(second)
		for i := range list {
			list[i] += "!"
		}
		checkAll(t, second, texts, api.OK)
		checkRight(t, second, true)
		for i, s := range texts {
			checkText(t, second, i, s, api.OK)
		}
		if !samePool(second, before) {
			t.Fatalf("%+v has changed from %+v", second, before)
		}
	}
}

// P1 and R4: the same arguments give the same results, whatever was called in between.
func TestCallsRememberNothing(t *testing.T) {
	list := collections()
	first := make([]api.Pool, len(list))
	for i, texts := range list {
		first[i] = made(t, texts)
	}
	for i, texts := range slices.Backward(list) {
		checkFault(t, api.Pool{At: []int{5}}, api.ErrRange)
		checkMake(t, []string{"\t"}, api.Pool{}, api.ErrText)
		checkMake(t, texts, first[i], api.OK)
		checkAll(t, first[i], texts, api.OK)
	}
}

// P1: long abbreviations that occur often do not fill the memory.
func TestLongAbbreviationsThatOccurOften(t *testing.T) {
	abbrevs := []string{strings.Repeat("a", 1<<24)}
	codes := slices.Repeat([]int{30, 0}, 1<<16)
	checkText(t, one(abbrevs, codes...), 0, "", api.ErrText)
	checkText(t, one(abbrevs, append(codes, 30, 1)...), 0, "", api.ErrNone)
	checkText(t, one(abbrevs, append(codes, 30)...), 0, "", api.ErrCode)
}

// FuzzPromise8_2 checks any pool against the definitions.
func FuzzPromise8_2(f *testing.F) {
	f.Add([]byte{0xf0, 0x3e}, "the ", "", 0, 2)
	f.Add([]byte{0x60, 0x5b, 0x0f, 0x80, 0x7a, 0x58, 0x06, 0x05, 0xb0, 0xf8}, "\t", "a", 0, 4)
	f.Add([]byte{0xdf, 0xc0}, "a", "b", -1, 3)
	f.Fuzz(func(t *testing.T, b []byte, x, y string, first, second int) {
		for _, abbrevs := range [][]string{nil, {x}, {x, y}} {
			checkDefined(t, api.Pool{Abbrevs: abbrevs, At: []int{first}, Bytes: b})
			checkDefined(t, api.Pool{Abbrevs: abbrevs, At: []int{first, second}, Bytes: b})
		}
	})
}

// FuzzPromise8_3 checks the pools of any texts.
func FuzzPromise8_3(f *testing.F) {
	f.Add("the lamp", "the box", "the key")
	f.Add("~~~~", "~~~~~~", "")
	f.Add("a\tb", "", "")
	f.Fuzz(func(t *testing.T, a, b, c string) {
		texts := []string{a, b, c, a}
		want, wantErr := definedMake(texts)
		checkMake(t, texts, want, wantErr)
		if wantErr == api.OK {
			checkDefined(t, want)
			checkAll(t, want, texts, api.OK)
			checkRight(t, want, true)
		}
	})
}
