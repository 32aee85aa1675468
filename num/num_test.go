package num_test

import (
	"math"
	"math/big"
	"slices"
	"strings"
	"testing"

	"clew/api"
	"clew/num"
)

const (
	least    = -32768
	greatest = 32767
)

// sweepEnd is far enough beyond the bounds of a value that every value occurs more than once modulo 2^16.
const sweepEnd = 140000

// samples are the bounds of values and of int, and the neighbours of all powers of two and ten.
func samples() []int {
	list := []int{math.MinInt, math.MinInt + 1, math.MaxInt - 1, math.MaxInt}
	around := func(n int) {
		for offset := -2; offset <= 2; offset++ {
			list = append(list, n+offset, -n+offset)
		}
	}
	for shift := range 63 {
		around(1 << shift)
	}
	for power := 1; power <= math.MaxInt/10; power *= 10 {
		around(power)
	}
	for n := -40000; n <= 40000; n += 1237 {
		list = append(list, n)
	}
	slices.Sort(list)
	return slices.Compact(list)
}

// wide are numbers without a sign: the samples, and the upper half of uint64.
func wide() []uint64 {
	list := []uint64{0, 9999999999999999999, 10000000000000000000, 10000000000000000001, math.MaxUint64 - 1, math.MaxUint64}
	for _, n := range samples() {
		list = append(list, uint64(n))
	}
	slices.Sort(list)
	return slices.Compact(list)
}

// wrapped is the definition of Wrap, in numbers of any size.
func wrapped(n *big.Int) int {
	modulus := big.NewInt(1 << 16)
	rest := int(new(big.Int).Mod(n, modulus).Int64())
	if rest > greatest {
		return rest - 1<<16
	}
	return rest
}

func bigWrapped(n int) *big.Int {
	return big.NewInt(int64(wrapped(big.NewInt(int64(n)))))
}

// repeated is a digit, many times.
func repeated(digit string) string {
	return strings.Repeat(digit, 1<<16)
}

// malformed are texts of no number, with a sign or without one.
func malformed() []string {
	list := []string{
		"", "-", "+", "--", "-+", "+-", "--1", "-+1", "+-1", "+1", "+0", "-0", "-00",
		"00", "01", "007", "-01", "-007", "000000000000000000000001", "0x10", "0b1", "0o7",
		" ", " 1", "1 ", "1 2", "- 1", "-1 ", "\t1", "1\n", "\n", "1\x00", "\x001",
		"1_000", "1,000", "1.0", "1.", ".5", "1e3", "1E3", "NaN", "Inf", "a", "f", "x1", "1x", "-x", "-1x", "1-", "1-1", "1+1",
		"/", ":", "1/", "1:", "/1", ":1", "-/", "-:", "99999999999999999999x", "-99999999999999999999x", "x99999999999999999999",
		"\u0661", "1\u0661", "\uff11", "\u22121", "\u00b2", "\xff", "1\xff", "-\xb1", "\xb1",
		repeated("0"), "-" + repeated("0"), repeated("9") + "x", "-" + repeated("9") + " ", "0" + repeated("9"), "-0" + repeated("9"),
	}
	for c := range 256 {
		if c < '0' || c > '9' {
			list = append(list, string([]byte{byte(c)}), string([]byte{'4', byte(c)}), string([]byte{'4', byte(c), '2'}))
		}
	}
	return list
}

func checkValue(t *testing.T, call string, got, want int) {
	t.Helper()
	if got != want {
		t.Fatalf("%s = %d, want %d", call, got, want)
	}
}

func TestPromise1_1Examples(t *testing.T) {
	checkValue(t, "Wrap(32768)", num.Wrap(32768), -32768)
	checkValue(t, "Wrap(-32769)", num.Wrap(-32769), 32767)
	checkValue(t, "Wrap(65536)", num.Wrap(65536), 0)
	checkValue(t, "Wrap(MaxInt)", num.Wrap(math.MaxInt), -1)
	checkValue(t, "Wrap(MinInt)", num.Wrap(math.MinInt), 0)
	checkValue(t, "Add(2, 3)", num.Add(2, 3), 5)
	checkValue(t, "Add(32767, 1)", num.Add(32767, 1), -32768)
	checkValue(t, "Sub(2, 3)", num.Sub(2, 3), -1)
	checkValue(t, "Sub(-32768, 1)", num.Sub(-32768, 1), 32767)
	checkValue(t, "Mul(300, 300)", num.Mul(300, 300), 24464)
	checkValue(t, "Mul(-32768, -32768)", num.Mul(-32768, -32768), 0)
	checkValue(t, "Mul(-32768, -1)", num.Mul(-32768, -1), -32768)
	checkValue(t, "Neg(5)", num.Neg(5), -5)
	checkValue(t, "Neg(0)", num.Neg(0), 0)
	checkValue(t, "Neg(-32768)", num.Neg(-32768), -32768)
	checkValue(t, "Neg(32768)", num.Neg(32768), -32768)
}

func TestPromise1_1IsAndWrapAndNeg(t *testing.T) {
	list := samples()
	for n := -sweepEnd; n <= sweepEnd; n++ {
		list = append(list, n)
	}
	for _, n := range list {
		if want := n >= least && n <= greatest; num.Is(n) != want {
			t.Fatalf("Is(%d) = %v", n, !want)
		}
		value := bigWrapped(n)
		if got := num.Wrap(n); got != int(value.Int64()) {
			t.Fatalf("Wrap(%d) = %d, want %d", n, got, value)
		}
		if got, want := num.Neg(n), wrapped(new(big.Int).Neg(value)); got != want {
			t.Fatalf("Neg(%d) = %d, want %d", n, got, want)
		}
	}
}

func TestPromise1_1AddAndSubAndMul(t *testing.T) {
	list := samples()
	for _, a := range list {
		left := bigWrapped(a)
		for _, b := range list {
			right := bigWrapped(b)
			if got, want := num.Add(a, b), wrapped(new(big.Int).Add(left, right)); got != want {
				t.Fatalf("Add(%d, %d) = %d, want %d", a, b, got, want)
			}
			if got, want := num.Sub(a, b), wrapped(new(big.Int).Sub(left, right)); got != want {
				t.Fatalf("Sub(%d, %d) = %d, want %d", a, b, got, want)
			}
			if got, want := num.Mul(a, b), wrapped(new(big.Int).Mul(left, right)); got != want {
				t.Fatalf("Mul(%d, %d) = %d, want %d", a, b, got, want)
			}
		}
	}
}

func TestPromise1_2Examples(t *testing.T) {
	for _, x := range []struct{ a, b, quotient, rest int }{
		{7, 2, 3, 1},
		{-7, 2, -3, -1},
		{7, -2, -3, 1},
		{-7, -2, 3, -1},
		{9, 3, 3, 0},
		{-9, 3, -3, 0},
		{0, 5, 0, 0},
		{0, -5, 0, 0},
		{3, 7, 0, 3},
		{-3, 7, 0, -3},
		{32767, -32768, 0, 32767},
		{-32768, 32767, -1, -1},
		{-32768, 1, -32768, 0},
		{-32768, -1, -32768, 0},
		{65543, 2, 3, 1},
		{32769, 2, -16383, -1},
		{7, 65538, 3, 1},
		{7, -65538, -3, 1},
		{100, 65535, -100, 0},
	} {
		checkDivision(t, x.a, x.b, x.quotient, x.rest)
	}
}

func checkDivision(t *testing.T, a, b, wantQuotient, wantRest int) {
	t.Helper()
	if got, err := num.Div(a, b); got != wantQuotient || err != api.OK {
		t.Fatalf("Div(%d, %d) = %d, error %d; want %d", a, b, got, int(err), wantQuotient)
	}
	if got, err := num.Mod(a, b); got != wantRest || err != api.OK {
		t.Fatalf("Mod(%d, %d) = %d, error %d; want %d", a, b, got, int(err), wantRest)
	}
}

func checkNoDivision(t *testing.T, a, b int) {
	t.Helper()
	if got, err := num.Div(a, b); got != 0 || err != api.ErrArg {
		t.Fatalf("Div(%d, %d) = %d, error %d; want ErrArg", a, b, got, int(err))
	}
	if got, err := num.Mod(a, b); got != 0 || err != api.ErrArg {
		t.Fatalf("Mod(%d, %d) = %d, error %d; want ErrArg", a, b, got, int(err))
	}
}

func checkDivisionByDefinition(t *testing.T, a, b int) {
	t.Helper()
	left, right := bigWrapped(a), bigWrapped(b)
	if right.Sign() == 0 {
		checkNoDivision(t, a, b)
		return
	}
	quotient, rest := new(big.Int).QuoRem(left, right, new(big.Int))
	checkDivision(t, a, b, wrapped(quotient), int(rest.Int64()))
}

func TestPromise1_2Pairs(t *testing.T) {
	list := samples()
	for _, a := range list {
		for _, b := range list {
			checkDivisionByDefinition(t, a, b)
		}
	}
}

func TestPromise1_2AllDivisors(t *testing.T) {
	for b := least; b <= greatest; b++ {
		for _, a := range []int{least, -1000, -7, 7, 1000, greatest} {
			checkDivisionByDefinition(t, a, b)
		}
	}
}

func TestPromise1_2DivisorZero(t *testing.T) {
	for _, b := range []int{0, 65536, -65536, 131072, 1 << 32, -1 << 32, math.MinInt} {
		for _, a := range []int{math.MinInt, least, -1, 0, 1, greatest, 65536, math.MaxInt} {
			checkNoDivision(t, a, b)
		}
	}
}

func TestPromise1_3TextAndDigits(t *testing.T) {
	for n, want := range map[int]string{
		0: "0", 7: "7", 10: "10", -1: "-1", -10: "-10", 100: "100", 32768: "32768", -32769: "-32769",
		math.MaxInt: "9223372036854775807", math.MinInt: "-9223372036854775808",
	} {
		if got := num.Text(n); got != want {
			t.Fatalf("Text(%d) = %q, want %q", n, got, want)
		}
	}
	for _, n := range samples() {
		if got, want := num.Text(n), big.NewInt(int64(n)).String(); got != want {
			t.Fatalf("Text(%d) = %q", n, got)
		}
	}
	for _, n := range wide() {
		if got, want := num.Digits(n), new(big.Int).SetUint64(n).String(); got != want {
			t.Fatalf("Digits(%d) = %q", n, got)
		}
	}
}

func checkParse(t *testing.T, s string, want int, wantErr api.Errno) {
	t.Helper()
	if got, err := num.Parse(s); got != want || err != wantErr {
		t.Fatalf("Parse(%.40q) = %d, error %d; want %d, error %d", s, got, int(err), want, int(wantErr))
	}
}

func TestPromise1_3ParseReadsText(t *testing.T) {
	list := samples()
	for n := -sweepEnd; n <= sweepEnd; n++ {
		list = append(list, n)
	}
	for _, n := range list {
		s := big.NewInt(int64(n)).String()
		if n < least || n > greatest {
			checkParse(t, s, 0, api.ErrRange)
			continue
		}
		checkParse(t, s, n, api.OK)
		checkParse(t, num.Text(n), n, api.OK)
	}
}

func TestPromise1_3ParseLimits(t *testing.T) {
	checkParse(t, "32767", 32767, api.OK)
	checkParse(t, "-32768", -32768, api.OK)
	for _, s := range []string{
		"32768", "-32769", "65536", "-65536", "65537", "4294967296", "4294967301",
		"9223372036854775808", "-9223372036854775809", "18446744073709551615", "18446744073709551616", "18446744073709551621",
		"-18446744073709551616", "-18446744073709551621", "99999999999999999999", "-99999999999999999999", "100000000000000000000",
		repeated("9"), "-" + repeated("9"), "1" + repeated("0"), "-1" + repeated("0"),
	} {
		checkParse(t, s, 0, api.ErrRange)
	}
}

func TestPromise1_3ParseForm(t *testing.T) {
	for _, s := range malformed() {
		checkParse(t, s, 0, api.ErrForm)
		checkParse(t, "-"+s, 0, api.ErrForm)
	}
}

func checkNumber(t *testing.T, s string, most, want uint64, wantErr api.Errno) {
	t.Helper()
	if got, err := num.Number(s, most); got != want || err != wantErr {
		t.Fatalf("Number(%.40q, %d) = %d, error %d; want %d, error %d", s, most, got, int(err), want, int(wantErr))
	}
}

func TestPromise1_3NumberExamples(t *testing.T) {
	checkNumber(t, "0", 0, 0, api.OK)
	checkNumber(t, "1", 0, 0, api.ErrRange)
	checkNumber(t, "9", 10, 9, api.OK)
	checkNumber(t, "10", 9, 0, api.ErrRange)
	checkNumber(t, "255", 255, 255, api.OK)
	checkNumber(t, "256", 255, 0, api.ErrRange)
	checkNumber(t, "99", 255, 99, api.OK)
	checkNumber(t, "300", 255, 0, api.ErrRange)
	checkNumber(t, "18446744073709551615", math.MaxUint64, math.MaxUint64, api.OK)
	checkNumber(t, "18446744073709551614", math.MaxUint64, math.MaxUint64-1, api.OK)
	checkNumber(t, "18446744073709551615", math.MaxUint64-1, 0, api.ErrRange)
	checkNumber(t, "18446744073709551616", math.MaxUint64, 0, api.ErrRange)
	checkNumber(t, "18446744073709551621", math.MaxUint64, 0, api.ErrRange)
	checkNumber(t, "20000000000000000000", math.MaxUint64, 0, api.ErrRange)
	checkNumber(t, "99999999999999999999", math.MaxUint64, 0, api.ErrRange)
	checkNumber(t, "100000000000000000000", math.MaxUint64, 0, api.ErrRange)
	checkNumber(t, repeated("9"), math.MaxUint64, 0, api.ErrRange)
	checkNumber(t, "1"+repeated("0"), 0, 0, api.ErrRange)
}

func TestPromise1_3NumberReadsDigits(t *testing.T) {
	list := wide()
	for n := range uint64(1000) {
		list = append(list, n)
	}
	for _, n := range list {
		for _, most := range []uint64{0, 9, 10, 255, greatest, math.MaxInt, math.MaxUint64, n - 1, n, n + 1} {
			if n <= most {
				checkNumber(t, num.Digits(n), most, n, api.OK)
			} else {
				checkNumber(t, num.Digits(n), most, 0, api.ErrRange)
			}
		}
	}
}

func TestPromise1_3NumberForm(t *testing.T) {
	list := append(malformed(), "-1", "-10", "-32768", "-"+repeated("9"))
	for _, s := range list {
		for _, most := range []uint64{0, 9, math.MaxUint64} {
			checkNumber(t, s, most, 0, api.ErrForm)
		}
	}
}

// P1 and R4: the same arguments give the same results, whatever was called in between.
func TestCallsRememberNothing(t *testing.T) {
	type answers struct {
		quotient, rest, value  int
		divErr, modErr, valErr api.Errno
		text                   string
	}
	ask := func(n int) (a answers) {
		a.quotient, a.divErr = num.Div(1000, n)
		a.rest, a.modErr = num.Mod(1000, n)
		a.text = num.Text(n)
		a.value, a.valErr = num.Parse(a.text)
		return a
	}
	list := samples()
	first := make([]answers, len(list))
	for i, n := range list {
		first[i] = ask(n)
	}
	for i, n := range slices.Backward(list) {
		if again := ask(n); again != first[i] {
			t.Fatalf("%d: first %v, then %v", n, first[i], again)
		}
	}
}
