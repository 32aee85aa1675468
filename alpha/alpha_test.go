package alpha_test

import (
	"math"
	"math/big"
	"slices"
	"strings"
	"testing"

	"clew/alpha"
	"clew/api"
)

// mostBytes is the greatest length of a text.
const mostBytes = 1024

// byteCodes are the codes of every byte that a text can have, by the definition's list.
func byteCodes() map[byte][]int {
	table := map[byte][]int{' ': {0}}
	for i := range 26 {
		table[byte('a'+i)] = []int{1 + i}
		table[byte('A'+i)] = []int{27, 1 + i}
	}
	listed := []byte{'0', '1', '2', '3', '4', '5', '6', '7', '8', '9', '.', ',', '!', '?', '\'', '"', '-', ':', ';', '(', ')', '/', '&', '*', '+', '=', '%', '#', '$', 10, '<'}
	for i, c := range listed {
		table[c] = []int{28, i}
	}
	table['>'] = []int{29, 3, 14}
	table['@'] = []int{29, 4, 0}
	table['['] = []int{29, 5, 11}
	table['\\'] = []int{29, 5, 12}
	table[']'] = []int{29, 5, 13}
	table['^'] = []int{29, 5, 14}
	table['_'] = []int{29, 5, 15}
	table['`'] = []int{29, 6, 0}
	table['{'] = []int{29, 7, 11}
	table['|'] = []int{29, 7, 12}
	table['}'] = []int{29, 7, 13}
	table['~'] = []int{29, 7, 14}
	return table
}

// defined is the codes of s by the definition.
func defined(s string) []int {
	table := byteCodes()
	var codes []int
	for i := range len(s) {
		codes = append(codes, table[s[i]]...)
	}
	return codes
}

// texts are the empty text, every byte that a text can have, by itself and between others, ordinary texts, and the longest ones.
func texts() []string {
	list := []string{"", "az ", "a B<", "You are in a maze of twisty little passages, all alike.\n", "  two  spaces  ", "(x_1 = 5%; y^2) [no] {yes} | @home `quoted` \\ ~", "\n\n\n", "AbC", "zZ zZ"}
	for c := range byteCodes() {
		s := string([]byte{c})
		list = append(list, s, "a"+s, s+"a", s+s, "Q"+s+"9")
	}
	for _, length := range []int{2, 3, 7, 8, 9, 31, 32, 33, mostBytes - 1, mostBytes} {
		list = append(list, strings.Repeat("a", length), strings.Repeat("~", length), strings.Repeat("aB1~\n", length)[:length])
	}
	slices.Sort(list) // a map has no order
	return list
}

// strangeBytes are the bytes that no text has.
func strangeBytes() []byte {
	table := byteCodes()
	var list []byte
	for c := range 256 {
		if _, ok := table[byte(c)]; !ok {
			list = append(list, byte(c))
		}
	}
	return list
}

// noCodes are numbers that are no codes.
func noCodes() []int {
	return []int{-1, -2, -4, -5, -31, -32, 32, 33, 59, 60, 61, 256, 288, 1 << 16, math.MinInt32, math.MaxInt32, math.MinInt, math.MinInt + 1, math.MaxInt, math.MaxInt - 3, 1<<62 + 1}
}

// packed is the bytes of l by the definition: one number without bounds, from whose digits the bytes are taken.
func packed(l []int) []byte {
	digits := append(slices.Clone(l), 31)
	number := new(big.Int)
	for _, d := range digits {
		number.Mul(number, big.NewInt(32))
		number.Add(number, big.NewInt(int64((d%32+32)%32)))
	}
	length := (5*len(digits) + 7) / 8
	number.Lsh(number, uint(8*length-5*len(digits)))
	return number.FillBytes(make([]byte, length))
}

// unpacked is the codes of b by the definition, from the bits written out.
func unpacked(b []byte) ([]int, api.Errno) {
	var bits []int
	for _, c := range b {
		for power := 128; power > 0; power /= 2 {
			bits = append(bits, int(c)/power%2)
		}
	}
	var codes []int
	for ; len(bits) >= 5; bits = bits[5:] {
		code := 16*bits[0] + 8*bits[1] + 4*bits[2] + 2*bits[3] + bits[4]
		if code < 31 {
			codes = append(codes, code)
			continue
		}
		behind := bits[5:]
		if len(behind) >= 8 {
			return nil, api.ErrLong
		}
		if slices.Contains(behind, 1) {
			return nil, api.ErrForm
		}
		return codes, api.OK
	}
	return nil, api.ErrShort
}

// codeLists are lists of codes of all lengths around whole bytes, and of all codes.
func codeLists() [][]int {
	list := [][]int{nil, {}}
	for code := range 31 {
		list = append(list, []int{code}, []int{code, code}, []int{0, code}, []int{30, code, 0})
	}
	for length := range 50 {
		mixed := make([]int, length)
		for i := range mixed {
			mixed[i] = (i*i + 5*i + 3*length) % 31
		}
		list = append(list, mixed, slices.Repeat([]int{30}, length), make([]int, length))
	}
	return list
}

func checkCodes(t *testing.T, s string, want []int, wantErr api.Errno) {
	t.Helper()
	if got, err := alpha.Codes(s); err != wantErr || !slices.Equal(got, want) {
		t.Fatalf("Codes(%.60q) = %.60v, error %d, want %.60v, error %d", s, got, int(err), want, int(wantErr))
	}
}

func checkText(t *testing.T, l []int, want string, wantErr api.Errno) {
	t.Helper()
	if got, err := alpha.Text(l); err != wantErr || got != want {
		t.Fatalf("Text(%.60v) = %.60q, error %d, want %.60q, error %d", l, got, int(err), want, int(wantErr))
	}
}

func checkCost(t *testing.T, s string, want int) {
	t.Helper()
	if got := alpha.Cost(s); got != want {
		t.Fatalf("Cost(%.60q) = %d, want %d", s, got, want)
	}
}

func checkPack(t *testing.T, l []int, want []byte) {
	t.Helper()
	if got := alpha.Pack(l); !slices.Equal(got, want) {
		t.Fatalf("Pack(%v) = %v, want %v", l, got, want)
	}
}

func checkUnpack(t *testing.T, b []byte, want []int, wantErr api.Errno) {
	t.Helper()
	if got, err := alpha.Unpack(b); err != wantErr || !slices.Equal(got, want) {
		t.Fatalf("Unpack(%v) = %v, error %d, want %v, error %d", b, got, int(err), want, int(wantErr))
	}
}

func TestPromise6_1Examples(t *testing.T) {
	for s, want := range map[string][]int{
		"":          nil,
		"a B<":      {1, 0, 27, 2, 28, 30},
		"~":         {29, 7, 14},
		"Take 10.":  {27, 20, 1, 11, 5, 0, 28, 1, 28, 0, 28, 10},
		"\n$#%":     {28, 29, 28, 28, 28, 27, 28, 26},
		"it's >_<":  {9, 20, 28, 14, 19, 0, 29, 3, 14, 29, 5, 15, 28, 30},
		"(a/b)&*+=": {28, 19, 1, 28, 21, 2, 28, 20, 28, 22, 28, 23, 28, 24, 28, 25},
	} {
		checkCodes(t, s, want, api.OK)
		checkText(t, want, s, api.OK)
		checkCost(t, s, len(want))
	}
}

func TestPromise6_1EveryByteByItself(t *testing.T) {
	table := byteCodes()
	if len(table) != 96 {
		t.Fatal(len(table), "bytes of texts")
	}
	for c := range 256 {
		s := string([]byte{byte(c)})
		want, ok := table[byte(c)]
		if !ok {
			checkCodes(t, s, nil, api.ErrText)
			checkCost(t, s, 0)
			continue
		}
		checkCodes(t, s, want, api.OK)
		checkText(t, want, s, api.OK)
		checkCost(t, s, len(want))
	}
}

func TestPromise6_1TextsHaveTheirCodes(t *testing.T) {
	for _, s := range texts() {
		want := defined(s)
		checkCodes(t, s, want, api.OK)
		checkCost(t, s, len(want))
	}
}

func TestPromise6_1CodesRefuseWhatIsNoText(t *testing.T) {
	for _, c := range strangeBytes() {
		s := string([]byte{c})
		for _, other := range []string{"a" + s, s + "a", "a" + s + "b", s + s, strings.Repeat("a", mostBytes-1) + s} {
			checkCodes(t, other, nil, api.ErrText)
		}
	}
	for _, length := range []int{mostBytes + 1, mostBytes + 2, 5000, 1 << 16} {
		checkCodes(t, strings.Repeat("a", length), nil, api.ErrText)
		checkCodes(t, strings.Repeat("\x00", length), nil, api.ErrText)
	}
	checkCodes(t, "é", nil, api.ErrText)
}

func TestPromise6_1CostAcceptsAnyString(t *testing.T) {
	checkCost(t, "a\tb", 2)
	checkCost(t, "A\x00~\x7fz\xff", 2+3+1)
	checkCost(t, "caf\xc3\xa9", 3)
	checkCost(t, string(strangeBytes()), 0)
	checkCost(t, strings.Repeat("a", mostBytes+1), mostBytes+1)
	checkCost(t, strings.Repeat("~A1 ", 100000), 800000)
	checkCost(t, strings.Repeat("\t", 5000)+"Z", 2)
	for _, s := range texts() {
		for _, c := range strangeBytes() {
			checkCost(t, s+string([]byte{c}), len(defined(s)))
		}
	}
}

func TestPromise6_1TextRefusesUnfinishedForms(t *testing.T) {
	for _, s := range []string{"", "a", "Hello ", "~", strings.Repeat("a", mostBytes-1)} {
		for _, end := range [][]int{{27}, {28}, {29}, {29, 7}, {29, 0}, {29, 1}, {29, 3}} {
			checkText(t, append(defined(s), end...), "", api.ErrCode)
		}
	}
	// Every list that ends within a form, and none else, lacks something.
	for _, s := range texts() {
		l := defined(s)
		ends := map[int]string{}
		for length := range len(s) + 1 {
			ends[len(defined(s[:length]))] = s[:length]
		}
		for length := range min(len(l), 60) {
			if begun, ok := ends[length]; ok {
				checkText(t, l[:length], begun, api.OK)
			} else {
				checkText(t, l[:length], "", api.ErrCode)
			}
		}
	}
}

func TestPromise6_1TextRefusesWhatIsNoForm(t *testing.T) {
	for _, l := range [][]int{{30}, {31}, {30, 0}, {31, 1}, {1, 31}, {1, 30, 1}, {31, 0, 0}, {27, 0}, {27, 27}, {27, 28}, {27, 29}, {27, 30}, {27, 31}, {28, 31}} {
		checkText(t, l, "", api.ErrCode)
		checkText(t, append(l, 1, 1, 1), "", api.ErrCode)
		checkText(t, append([]int{1, 0}, l...), "", api.ErrCode)
	}
}

// Whatever two codes follow 29, they are accepted only if the byte has no form that comes earlier, and only as digits.
func TestPromise6_1TextOfEveryAnnouncedByte(t *testing.T) {
	for high := range 32 {
		for low := range 32 {
			want, wantErr := "", api.ErrCode
			for c, codes := range byteCodes() {
				if slices.Equal(codes, []int{29, high, low}) {
					want, wantErr = string([]byte{c}), api.OK
				}
			}
			checkText(t, []int{29, high, low}, want, wantErr)
		}
	}
	// A second digit above 15, a space, letters, a digit, a line feed, and bytes that no text has.
	for _, l := range [][]int{{29, 6, 30}, {29, 2, 30}, {29, 2, 0}, {29, 6, 1}, {29, 4, 1}, {29, 3, 0}, {29, 0, 10}, {29, 0, 9}, {29, 7, 15}, {29, 8, 0}, {29, 15, 15}, {29, 16, 0}, {29, 23, 14}, {29, 31, 31}} {
		checkText(t, l, "", api.ErrCode)
	}
}

func TestPromise6_1TextRefusesNumbersThatAreNoCodes(t *testing.T) {
	for _, n := range noCodes() {
		for _, l := range [][]int{{n}, {1, n}, {n, 1}, {n, 1, 1}, {27, n}, {28, n}, {29, n, 14}, {29, 7, n}, {29, n, n}} {
			checkText(t, l, "", api.ErrCode)
		}
	}
	// Digits that would add up to a byte that has this form.
	for _, l := range [][]int{{29, 8, -2}, {29, 6, 30}, {29, 0, 126}, {29, 7 + 16, 14}, {29, 7, 14 + 256}, {29, 7 - 16, 14}, {29, 1 << 60, 126}, {27, 1 + 256}, {28, 0 + 256}, {28, -1}} {
		checkText(t, l, "", api.ErrCode)
	}
}

func TestPromise6_1TextsHaveALimit(t *testing.T) {
	for _, c := range []byte{'a', ' ', 'A', '7', '~', '\n'} {
		s := strings.Repeat(string([]byte{c}), mostBytes)
		checkText(t, defined(s), s, api.OK)
		checkCodes(t, s, defined(s), api.OK)
		longer := s + string([]byte{c})
		checkText(t, defined(longer), "", api.ErrCode)
		checkCodes(t, longer, nil, api.ErrText)
	}
	checkText(t, make([]int, 1<<20), "", api.ErrCode)
}

func TestPromise6_2PackExamples(t *testing.T) {
	for _, example := range []struct {
		codes []int
		bytes []byte
	}{
		{nil, []byte{0xF8}},
		{[]int{1}, []byte{15, 192}},
		{[]int{0}, []byte{0x07, 0xC0}},
		{[]int{1, 2, 3}, []byte{0x08, 0x87, 0xF0}},
		{[]int{16, 8, 4, 2, 1, 30, 17}, []byte{0x82, 0x08, 0x20, 0xFA, 0x3F}},
		{[]int{27, 20, 1, 11, 5, 0, 28}, []byte{0xDD, 0x02, 0xB2, 0x83, 0x9F}},
	} {
		checkPack(t, example.codes, example.bytes)
		checkUnpack(t, example.bytes, example.codes, api.OK)
	}
}

func TestPromise6_2PackIsAsDefined(t *testing.T) {
	for _, l := range codeLists() {
		checkPack(t, l, packed(l))
	}
	for _, s := range texts() {
		l := defined(s)
		checkPack(t, l, packed(l))
	}
}

func TestPromise6_2PackTakesNumbersModulo32(t *testing.T) {
	numbers := noCodes()
	for n := -100; n <= 100; n++ {
		numbers = append(numbers, n)
	}
	for _, n := range numbers {
		code := (n%32 + 32) % 32
		checkPack(t, []int{n}, packed([]int{code}))
		checkPack(t, []int{3, n, n, 21}, packed([]int{3, code, code, 21}))
	}
	checkPack(t, []int{-1}, []byte{0xFF, 0xC0})
	checkPack(t, []int{31}, []byte{0xFF, 0xC0})
	checkPack(t, []int{-31}, []byte{0x0F, 0xC0})
	checkPack(t, []int{33}, []byte{0x0F, 0xC0})
	checkPack(t, []int{math.MinInt}, []byte{0x07, 0xC0})
	checkPack(t, []int{math.MaxInt}, []byte{0xFF, 0xC0})
}

func TestPromise6_2UnpackWithoutAnEndCode(t *testing.T) {
	checkUnpack(t, nil, nil, api.ErrShort)
	checkUnpack(t, []byte{}, nil, api.ErrShort)
	for length := 1; length < 40; length++ {
		checkUnpack(t, make([]byte, length), nil, api.ErrShort)
	}
	// Five bits of 1 that are no code, because they do not begin where one does.
	for _, b := range [][]byte{{0x7C}, {0x3E, 0}, {0x1F}, {0x0F, 0x80}, {0xF7, 0xBD}, {0, 0x1F}, {0, 0xFF, 0}} {
		want, wantErr := unpacked(b)
		checkUnpack(t, b, want, wantErr)
	}
	checkUnpack(t, []byte{0x7C}, nil, api.ErrShort)
	checkUnpack(t, []byte{0x0F, 0x80}, nil, api.ErrShort)
	// An end code that lacks its last bit, or more of them.
	checkUnpack(t, []byte{0, 1}, nil, api.ErrShort)
	checkUnpack(t, []byte{7}, nil, api.ErrShort)
	checkUnpack(t, []byte{0, 0, 0x0F}, nil, api.ErrShort)
}

func TestPromise6_2UnpackWithMoreBehindTheEndCode(t *testing.T) {
	for _, l := range codeLists() {
		b := packed(l)
		checkUnpack(t, b, l, api.OK)
		for _, behind := range []byte{0, 1, 128, 255, 0xF8} {
			checkUnpack(t, append(slices.Clone(b), behind), nil, api.ErrLong)
		}
		checkUnpack(t, append(slices.Clone(b), make([]byte, 9)...), nil, api.ErrLong)
		unused := 8*len(b) - 5*(len(l)+1)
		for bit := range unused {
			changed := slices.Clone(b)
			changed[len(b)-1] |= 1 << bit
			checkUnpack(t, changed, nil, api.ErrForm)
			// A whole byte counts before a bit.
			checkUnpack(t, append(changed, 0), nil, api.ErrLong)
		}
	}
	checkUnpack(t, []byte{248, 0}, nil, api.ErrLong)
	checkUnpack(t, []byte{249}, nil, api.ErrForm)
	checkUnpack(t, []byte{255}, nil, api.ErrForm)
	checkUnpack(t, []byte{249, 0}, nil, api.ErrLong)
	checkUnpack(t, []byte{255, 255}, nil, api.ErrLong)
	// An end code that ends with its byte leaves no bit behind it.
	checkUnpack(t, []byte{0, 0, 0, 0, 31}, make([]int, 7), api.OK)
	checkUnpack(t, []byte{0, 0, 0, 0, 31, 0}, nil, api.ErrLong)
}

func TestPromise6_2UnpackOfAllShortLists(t *testing.T) {
	for first := range 256 {
		one := []byte{byte(first)}
		want, wantErr := unpacked(one)
		checkUnpack(t, one, want, wantErr)
		for second := range 256 {
			two := []byte{byte(first), byte(second)}
			want, wantErr := unpacked(two)
			checkUnpack(t, two, want, wantErr)
			three := append(two, byte(first*7+second))
			want, wantErr = unpacked(three)
			checkUnpack(t, three, want, wantErr)
		}
	}
}

func TestPromise6_3TextsAreRestored(t *testing.T) {
	for _, s := range texts() {
		codes, err := alpha.Codes(s)
		if err != api.OK {
			t.Fatalf("Codes(%.60q): error %d", s, int(err))
		}
		checkText(t, codes, s, api.OK)
	}
}

// All lists of up to three codes: a text is accepted from its own codes only.
func TestPromise6_3NoOtherCodesGiveAText(t *testing.T) {
	check := func(l ...int) {
		s, err := alpha.Text(l)
		if err == api.OK && !slices.Equal(defined(s), l) || err != api.OK && (err != api.ErrCode || s != "") {
			t.Fatalf("Text(%v) = %q, error %d", l, s, int(err))
		}
	}
	for first := -1; first <= 32; first++ {
		check(first)
		for second := -1; second <= 32; second++ {
			check(first, second)
			for third := -1; third <= 32; third++ {
				check(first, second, third)
			}
		}
	}
}

func TestPromise6_3CodesSurvivePacking(t *testing.T) {
	for _, l := range codeLists() {
		checkUnpack(t, alpha.Pack(l), l, api.OK)
	}
	for _, s := range texts() {
		l, _ := alpha.Codes(s)
		checkUnpack(t, alpha.Pack(l), l, api.OK)
	}
}

func TestPromise6_3PackingUnpackedCodesGivesTheSameBytes(t *testing.T) {
	for first := range 256 {
		for second := range 256 {
			for _, b := range [][]byte{{byte(first)}, {byte(first), byte(second)}, {byte(first), byte(second), 0xF0}} {
				if l, err := alpha.Unpack(b); err == api.OK {
					checkPack(t, l, b)
				}
			}
		}
	}
}

func TestPromise6_3CodesOfAConcatenation(t *testing.T) {
	list := texts()
	for i, s := range list {
		other := list[(7*i+3)%len(list)]
		if len(s)+len(other) > mostBytes {
			continue
		}
		left, _ := alpha.Codes(s)
		right, _ := alpha.Codes(other)
		checkCodes(t, s+other, slices.Concat(left, right), api.OK)
		checkCost(t, s+other, alpha.Cost(s)+alpha.Cost(other))
	}
}

// R3: the arguments stay as they are, and what is returned shares no memory with them or with another result.
func TestResultsAreNewMemory(t *testing.T) {
	for _, l := range codeLists() {
		roomy := append(make([]int, 0, len(l)+8), l...)
		whole := slices.Clone(roomy[:cap(roomy)])
		first, second := alpha.Pack(roomy), alpha.Pack(roomy)
		for i := range first {
			first[i]++
		}
		_, _ = alpha.Text(roomy)
		if !slices.Equal(whole, roomy[:cap(roomy)]) || !slices.Equal(second, packed(l)) {
			t.Fatal("Pack shares memory", l)
		}
		buffer := slices.Clone(second)
		codes, _ := alpha.Unpack(buffer)
		again, _ := alpha.Unpack(buffer)
		for i := range codes {
			codes[i]++
		}
		if !slices.Equal(buffer, second) || !slices.Equal(again, l) {
			t.Fatal("Unpack shares memory", l)
		}
	}
	codes, _ := alpha.Codes("Zap!")
	clear(codes)
	checkCodes(t, "Zap!", defined("Zap!"), api.OK)
}

// P1 and R4: the same arguments give the same results, whatever was called in between.
func TestCallsRememberNothing(t *testing.T) {
	list := texts()
	first := make([][]int, len(list))
	for i, s := range list {
		first[i], _ = alpha.Codes(s)
	}
	for i, s := range slices.Backward(list) {
		checkText(t, []int{29, 6, 30}, "", api.ErrCode)
		checkUnpack(t, []byte{249}, nil, api.ErrForm)
		checkCodes(t, "\t", nil, api.ErrText)
		checkCodes(t, s, first[i], api.OK)
	}
}

// FuzzPromise6_3 checks any text and any bytes there and back.
func FuzzPromise6_3(f *testing.F) {
	f.Add("a B<", []byte{15, 192})
	f.Add("~\n", []byte{248, 0})
	f.Add("\t", []byte{})
	f.Fuzz(func(t *testing.T, s string, b []byte) {
		codes, err := alpha.Codes(s)
		if err == api.OK {
			checkText(t, codes, s, api.OK)
		}
		want, wantErr := unpacked(b)
		checkUnpack(t, b, want, wantErr)
		if wantErr == api.OK {
			checkPack(t, want, b)
		}
		numbers := make([]int, len(b))
		for i, c := range b {
			numbers[i] = int(int8(c))
		}
		checkPack(t, numbers, packed(numbers))
		for _, l := range [][]int{want, numbers} {
			if restored, err := alpha.Text(l); err == api.OK {
				checkCodes(t, restored, l, api.OK)
			}
		}
	})
}
