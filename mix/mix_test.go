package mix_test

import (
	"math"
	"math/big"
	"math/bits"
	"testing"

	"clew/mix"
)

// zeroNumber is the only number whose product with From's factor, plus 1, is 0 modulo 2^64.
const zeroNumber = 1702666872793809783

// mostSkipped is how many steps Skip takes at most.
const mostSkipped = 65536

// modulus is 2^length.
func modulus(length uint) *big.Int {
	return new(big.Int).Lsh(big.NewInt(1), length)
}

// unsigned is s as an integer without bounds.
func unsigned(s uint64) *big.Int {
	return new(big.Int).SetUint64(s)
}

// definedFrom is From by its definition, with integers without bounds.
func definedFrom(n int) uint64 {
	s := new(big.Int).Mul(big.NewInt(int64(n)), big.NewInt(2654435769))
	s.Add(s, big.NewInt(1))
	s.Mod(s, modulus(64)) // never negative, as the modulus is positive
	if s.Sign() == 0 {
		return 1
	}
	return s.Uint64()
}

// definedNext is Next by its definition, with integers without bounds.
func definedNext(s uint64) uint64 {
	n := unsigned(s)
	if s == 0 {
		n.SetInt64(1)
	}
	n.Xor(n, new(big.Int).Rsh(n, 12))
	n.Xor(n, new(big.Int).Mod(new(big.Int).Lsh(n, 25), modulus(64)))
	n.Xor(n, new(big.Int).Rsh(n, 27))
	return n.Uint64()
}

// definedValue is Value by its definition, with integers without bounds.
func definedValue(s uint64) uint32 {
	n := new(big.Int).Mul(unsigned(definedNext(s)), unsigned(2685821657736338717))
	n.Mod(n, modulus(64))
	n.Rsh(n, 32)
	return uint32(n.Uint64())
}

// definedBelow is the number of Below by its definition, with integers without bounds.
func definedBelow(s uint64, n int) int {
	value := big.NewInt(int64(definedValue(s)))
	return int(value.Mod(value, big.NewInt(int64(n))).Int64())
}

// before is the state whose Next is s, for a state that is not 0: each shift is undone from the end that it leaves alone.
func before(s uint64) uint64 {
	s ^= s>>27 ^ s>>54
	s ^= s<<25 ^ s<<50
	return s ^ s>>12 ^ s>>24 ^ s>>36 ^ s>>48 ^ s>>60
}

// states are the least and the greatest states, those with one or two bits and without one, some near powers of two, and ordinary ones.
func states() []uint64 {
	list := []uint64{0, 1, 2, 3, math.MaxUint64, math.MaxUint64 - 1, 0x123456789ABCDEF0, 0x5555555555555555, 0xAAAAAAAAAAAAAAAA}
	for bit := range 64 {
		one := uint64(1) << bit
		list = append(list, one, ^one, one-1, one+1, one|1<<63)
	}
	s := definedFrom(2026)
	for range 500 {
		list = append(list, s)
		s = definedNext(s)
	}
	return list
}

// numbers are the least and the greatest int, those near powers of two, and ordinary ones of both signs.
func numbers() []int {
	list := []int{0, math.MinInt, math.MinInt + 1, math.MaxInt, math.MaxInt - 1, zeroNumber, zeroNumber - 1, zeroNumber + 1, -zeroNumber, 2654435769}
	for bit := range 63 {
		one := 1 << bit
		list = append(list, one, one-1, one+1, -one, -one-1, -one+1)
	}
	for n := range 1000 {
		list = append(list, n, -n, 7919*n, -104729*n)
	}
	return list
}

// divisors are numbers that Below accepts: the least and the greatest, those around the greatest value, and ordinary ones.
func divisors() []int {
	list := []int{1, 2, 3, 6, 7, 10, 32767, 32768, 65535, 65536, 65537, 1000003, math.MaxInt, math.MaxInt - 1}
	for bit := 30; bit < 34; bit++ {
		list = append(list, 1<<bit-1, 1<<bit, 1<<bit+1)
	}
	return list
}

// noCounts are numbers below 1.
func noCounts() []int {
	return []int{0, -1, -2, -5, -32768, -65536, -65537, math.MinInt32, math.MinInt + 1, math.MinInt}
}

func checkState(t *testing.T, call string, got, want uint64) {
	t.Helper()
	if got != want {
		t.Fatalf("%s = %d, want %d", call, got, want)
	}
}

// checkBelow checks both results of Below.
func checkBelow(t *testing.T, s uint64, n, want int, wantNext uint64) {
	t.Helper()
	if got, next := mix.Below(s, n); got != want || next != wantNext {
		t.Fatalf("Below(%d, %d) = %d, %d, want %d, %d", s, n, got, next, want, wantNext)
	}
}

func checkSkip(t *testing.T, s uint64, k int, want uint64) {
	t.Helper()
	if got := mix.Skip(s, k); got != want {
		t.Fatalf("Skip(%d, %d) = %d, want %d", s, k, got, want)
	}
}

func TestPromise5_1FromExamples(t *testing.T) {
	for n, want := range map[int]uint64{
		0:              1,
		1:              2654435770,
		2:              5308871539,
		7:              18581050384,
		42:             111486302299,
		32767:          86977896842824,
		-1:             18446744071055115848,
		-32768:         18446657093158273025,
		math.MaxInt:    9223372034200340040,
		math.MinInt:    9223372036854775809,
		zeroNumber:     1,
		zeroNumber - 1: 18446744071055115847,
		zeroNumber + 1: 2654435769,
	} {
		checkState(t, "From", mix.From(n), want)
	}
}

func TestPromise5_1FromIsAsDefined(t *testing.T) {
	for _, n := range numbers() {
		if got, want := mix.From(n), definedFrom(n); got != want || got == 0 {
			t.Fatalf("From(%d) = %d, want %d", n, got, want)
		}
	}
}

func TestPromise5_1NextAndValueExamples(t *testing.T) {
	for s, want := range map[uint64]struct {
		next  uint64
		value uint32
	}{
		0:                  {33554433, 1206177355},
		1:                  {33554433, 1206177355},
		2:                  {67108866, 2412354711},
		3:                  {100663299, 3618532066},
		1 << 12:            {137472513025, 2895891488},
		1 << 27:            {4504699306811393, 3387433944},
		1 << 39:            {4504149550960641, 3118979243},
		1 << 63:            {9225623905404715008, 4043652781},
		math.MaxUint64:     {18442240611487580160, 4180462053},
		math.MaxUint64 - 1: {18442240611454025729, 4224967868},
		18581050384:        {623610963092912074, 3326397260},
		0x123456789ABCDEF0: {7624347718526603213, 3086680712},
	} {
		checkState(t, "Next", mix.Next(s), want.next)
		checkState(t, "Value", uint64(mix.Value(s)), uint64(want.value))
	}
}

func TestPromise5_1NextAndValueAreAsDefined(t *testing.T) {
	for _, s := range states() {
		if got, want := mix.Next(s), definedNext(s); got != want {
			t.Fatalf("Next(%d) = %d, want %d", s, got, want)
		}
		if got, want := mix.Value(s), definedValue(s); got != want {
			t.Fatalf("Value(%d) = %d, want %d", s, got, want)
		}
	}
}

func TestPromise5_2BelowExamples(t *testing.T) {
	checkBelow(t, 1, 6, 1206177355%6, 33554433)
	checkBelow(t, 0, 10, 5, 33554433)
	checkBelow(t, 1, 1, 0, 33554433)
	checkBelow(t, math.MaxUint64, 1000, 53, 18442240611487580160)
	s := mix.From(7)
	for i, want := range []int{2, 3, 0, 2, 4, 0, 5, 0, 1, 2, 2, 0} {
		got, next := mix.Below(s, 6)
		if got != want || next != mix.Next(s) {
			t.Fatalf("throw %d of a die: %d and %d, want %d and %d", i, got, next, want, mix.Next(s))
		}
		s = next
	}
}

func TestPromise5_2BelowIsTheRemainderOfTheValue(t *testing.T) {
	for _, s := range states() {
		for _, n := range divisors() {
			checkBelow(t, s, n, definedBelow(s, n), definedNext(s))
		}
		// The value itself as a divisor, and its neighbours.
		value := int(definedValue(s))
		for _, n := range []int{max(value-1, 1), max(value, 1), value + 1} {
			checkBelow(t, s, n, value%n, definedNext(s))
		}
	}
}

func TestPromise5_2BelowOfAGreatNumberIsTheWholeValue(t *testing.T) {
	for _, s := range states() {
		for _, n := range []int{1 << 32, 1<<32 + 1, 1 << 40, math.MaxInt} {
			checkBelow(t, s, n, int(definedValue(s)), definedNext(s))
		}
	}
}

func TestPromise5_2BelowOfLessThanOneTakesNoStep(t *testing.T) {
	for _, s := range states() {
		for _, n := range noCounts() {
			checkBelow(t, s, n, 0, s)
		}
	}
}

func TestPromise5_2SkipExamples(t *testing.T) {
	for k, want := range map[int]uint64{
		0:     1,
		1:     33554433,
		2:     1126174793148417,
		3:     3659449627584515,
		10:    15716741940523069913,
		100:   4435416917545086611,
		65535: 14003311278672566382,
		65536: 12604539740022202044,
	} {
		checkSkip(t, 1, k, want)
	}
}

func TestPromise5_2SkipAppliesNext(t *testing.T) {
	for _, s := range states() {
		want := s
		for k := range 20 {
			checkSkip(t, s, k, want)
			want = definedNext(want)
		}
	}
	want := uint64(0)
	for k := range 3000 {
		checkSkip(t, 0, k, want)
		want = definedNext(want)
	}
}

func TestPromise5_2SkipOfLessThanOneReturnsTheState(t *testing.T) {
	for _, s := range states() {
		for _, k := range noCounts() {
			checkSkip(t, s, k, s)
		}
	}
}

func TestPromise5_2SkipTakesAtMost65536Steps(t *testing.T) {
	for _, s := range []uint64{0, 1, mix.From(7), 1 << 63, math.MaxUint64} {
		want := s
		for range mostSkipped {
			want = mix.Next(want)
		}
		checkSkip(t, s, mostSkipped-1, before(want))
		checkSkip(t, s, mostSkipped, want)
		for _, k := range []int{mostSkipped + 1, 2 * mostSkipped, math.MaxInt32, 1 << 32, 1<<32 + 1, 1 << 62, math.MaxInt - 1, math.MaxInt} {
			checkSkip(t, s, k, want)
		}
	}
}

func TestPromise5_3NextIsNeverZero(t *testing.T) {
	for _, s := range states() {
		if mix.Next(s) == 0 {
			t.Fatalf("Next(%d) = 0", s)
		}
	}
	s := uint64(0)
	for i := range 200000 {
		if s = mix.Next(s); s == 0 {
			t.Fatalf("0 after %d steps", i+1)
		}
	}
}

// What can be undone maps different states to different ones.
func TestPromise5_3NextCanBeUndone(t *testing.T) {
	for _, s := range states() {
		if s != 0 {
			checkState(t, "the state before Next", before(mix.Next(s)), s)
		}
	}
	for n := range 100000 {
		s := mix.From(n)
		checkState(t, "the state before Next", before(mix.Next(s)), s)
	}
}

func TestPromise5_3DifferentStatesGoToDifferentOnes(t *testing.T) {
	from := map[uint64]uint64{}
	visit := func(s uint64) {
		next := mix.Next(s)
		if other, ok := from[next]; ok && other != s {
			t.Fatalf("Next(%d) = Next(%d) = %d", s, other, next)
		}
		from[next] = s
	}
	for s := uint64(1); s <= 1<<16; s++ {
		visit(s)
		visit(-s)
		visit(s << 32)
		visit(bits.Reverse64(s))
	}
	for _, s := range states() {
		if s != 0 {
			visit(s)
		}
	}
}

// On the nonzero states Next is linear, and the states that single bits lead to are independent: so it is one-to-one on all of them.
func TestPromise5_3NextHasFullRank(t *testing.T) {
	var pivots [64]uint64
	for bit := range 64 {
		s := mix.Next(1 << bit)
		for s != 0 && pivots[bits.Len64(s)-1] != 0 {
			s ^= pivots[bits.Len64(s)-1]
		}
		if s == 0 {
			t.Fatalf("Next(2^%d) depends on those of lower bits", bit)
		}
		pivots[bits.Len64(s)-1] = s
	}
	list := states()
	for i, a := range list {
		b := list[(7*i+3)%len(list)]
		if a != 0 && b != 0 && a != b && mix.Next(a)^mix.Next(b) != mix.Next(a^b) {
			t.Fatalf("Next is not linear at %d and %d", a, b)
		}
	}
}

func TestPromise5_3SkipsAddUp(t *testing.T) {
	counts := []int{0, 1, 2, 3, 100, 32767, 32768, 65534, 65535, 65536}
	for _, s := range []uint64{0, 1, mix.From(-3), math.MaxUint64} {
		for _, j := range counts {
			for _, k := range counts {
				if j+k <= mostSkipped {
					checkSkip(t, mix.Skip(s, j), k, mix.Skip(s, j+k))
				}
			}
			checkSkip(t, mix.Skip(s, j), mostSkipped-j, mix.Skip(s, mostSkipped))
		}
	}
	for _, s := range states() {
		for j := range 8 {
			for k := range 8 {
				checkSkip(t, mix.Skip(s, j), k, mix.Skip(s, j+k))
			}
		}
	}
}

func TestPromise5_3BelowIsLessThanItsNumber(t *testing.T) {
	for _, s := range states() {
		for _, n := range divisors() {
			if got, _ := mix.Below(s, n); got < 0 || got >= n {
				t.Fatalf("Below(%d, %d) = %d", s, n, got)
			}
		}
	}
	s := mix.From(1)
	for n := 1; n <= 5000; n++ {
		got, next := mix.Below(s, n)
		if got < 0 || got >= n {
			t.Fatalf("Below(%d, %d) = %d", s, n, got)
		}
		s = next
	}
}

// P1 and R4: the same arguments give the same results, whatever was called in between.
func TestCallsRememberNothing(t *testing.T) {
	type answers struct {
		next, behind, skipped, from uint64
		value                       uint32
		below                       int
	}
	ask := func(s uint64) answers {
		below, behind := mix.Below(s, 100)
		return answers{mix.Next(s), behind, mix.Skip(s, 5), mix.From(int(s)), mix.Value(s), below}
	}
	list := states()
	first := make([]answers, len(list))
	for i, s := range list {
		first[i] = ask(s)
	}
	for i := len(list) - 1; i >= 0; i-- {
		if again := ask(list[i]); again != first[i] {
			t.Fatalf("%d: first %v, then %v", list[i], first[i], again)
		}
	}
}

// FuzzPromise5 checks the functions against their definitions.
func FuzzPromise5(f *testing.F) {
	f.Add(uint64(0), 0, 0)
	f.Add(uint64(1), 1, 1)
	f.Add(uint64(math.MaxUint64), math.MaxInt, 65537)
	f.Add(uint64(1<<63), math.MinInt, math.MinInt)
	f.Add(uint64(18581050384), zeroNumber, 65536)
	f.Fuzz(func(t *testing.T, s uint64, n, k int) {
		next := definedNext(s)
		checkState(t, "From", mix.From(n), definedFrom(n))
		checkState(t, "Next", mix.Next(s), next)
		checkState(t, "Value", uint64(mix.Value(s)), uint64(definedValue(s)))
		if s != 0 {
			checkState(t, "the state before Next", before(next), s)
		}
		if n >= 1 {
			checkBelow(t, s, n, definedBelow(s, n), next)
		} else {
			checkBelow(t, s, n, 0, s)
		}
		want := s
		for i := 0; i < k && i < mostSkipped; i++ {
			want = mix.Next(want)
		}
		checkSkip(t, s, k, want)
	})
}
