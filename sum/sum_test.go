package sum_test

import (
	"encoding/binary"
	"hash/crc32"
	"math"
	"slices"
	"testing"

	"clew/api"
	"clew/sum"
)

// pattern is a list of bytes in which neighbours, and equal lists of different lengths, differ.
func pattern(length int) []byte {
	list := make([]byte, length)
	for i := range list {
		list[i] = byte(i*i + 7*i + length)
	}
	return list
}

// samples are lists of bytes around the lengths of a checksum, of a byte's values and of longer contents, and those that a checksum is easily wrong for.
func samples() [][]byte {
	list := [][]byte{nil, {}, []byte("a"), []byte("abc"), []byte("123456789"), []byte("The quick brown fox jumps over the lazy dog")}
	for _, length := range []int{1, 2, 3, 4, 5, 7, 8, 9, 31, 32, 33, 255, 256, 257, 1000, 65536} {
		list = append(list, pattern(length), make([]byte, length), slices.Repeat([]byte{255}, length))
	}
	for c := range 256 {
		list = append(list, []byte{byte(c)}, []byte{0, byte(c)}, []byte{byte(c), 0})
	}
	return list
}

// sums are checksums at the limits of their type, with single bits, and of ordinary bytes.
func sums() []uint32 {
	list := []uint32{0, 1, math.MaxInt32, math.MaxUint32 - 1, math.MaxUint32, 0xEDB88320, 0xCBF43926}
	for bit := range 32 {
		list = append(list, 1<<bit, ^uint32(1<<bit))
	}
	return list
}

// defined is the checksum by its definition, bit by bit: of b behind bytes whose checksum is s.
func defined(s uint32, b []byte) uint32 {
	register := s ^ math.MaxUint32
	for _, c := range b {
		register ^= uint32(c)
		for range 8 {
			if register%2 == 1 {
				register = register/2 ^ 0xEDB88320
			} else {
				register /= 2
			}
		}
	}
	return register ^ math.MaxUint32
}

// sealed is b followed by its checksum, as the library has it.
func sealed(b []byte) []byte {
	return binary.BigEndian.AppendUint32(slices.Clone(b), crc32.ChecksumIEEE(b))
}

// checkOpen checks what Open answers; beside an error, no bytes are wanted.
func checkOpen(t *testing.T, b, want []byte, wantErr api.Errno) {
	t.Helper()
	got, err := sum.Open(b)
	if err != wantErr || !slices.Equal(got, want) {
		t.Fatalf("Open of %d bytes %.60x: %d bytes %.60x, error %d; want %d bytes, error %d", len(b), b, len(got), got, int(err), len(want), int(wantErr))
	}
}

func TestPromise3_1KnownSums(t *testing.T) {
	for s, want := range map[string]uint32{
		"":                 0,
		"\x00":             0xD202EF8D,
		"\xff":             0xFF000000,
		"\x00\x00\x00\x00": 0x2144DF1C,
		"\xff\xff\xff\xff": 0xFFFFFFFF,
		"a":                0xE8B7BE43,
		"abc":              0x352441C2,
		"123456789":        0xCBF43926,
		"The quick brown fox jumps over the lazy dog": 0x414FA339,
	} {
		if got := sum.Of([]byte(s)); got != want {
			t.Fatalf("Of(%q) = %08X, want %08X", s, got, want)
		}
	}
	if got := sum.Of(nil); got != 0 {
		t.Fatalf("Of(nil) = %08X", got)
	}
}

func TestPromise3_1OfIsTheChecksum(t *testing.T) {
	for _, b := range samples() {
		before := slices.Clone(b)
		got := sum.Of(b)
		if got != defined(0, b) || got != crc32.ChecksumIEEE(b) {
			t.Fatalf("Of %d bytes %.60x = %08X", len(b), b, got)
		}
		if !slices.Equal(b, before) {
			t.Fatal("changed", b)
		}
	}
}

func TestPromise3_1OnIsTheChecksumOfBothParts(t *testing.T) {
	for _, b := range samples() {
		before := slices.Clone(b)
		for _, s := range sums() {
			if got := sum.On(s, b); got != crc32.Update(s, crc32.IEEETable, b) {
				t.Fatalf("On(%08X, %d bytes %.60x) = %08X", s, len(b), b, got)
			}
			if len(b) < 1000 && sum.On(s, b) != defined(s, b) {
				t.Fatalf("On(%08X, %.60x) is not as defined", s, b)
			}
		}
		if !slices.Equal(b, before) {
			t.Fatal("changed", b)
		}
	}
}

func TestPromise3_1OnOfNoBytesIsTheFirstPart(t *testing.T) {
	for _, s := range sums() {
		if first, second := sum.On(s, nil), sum.On(s, []byte{}); first != s || second != s {
			t.Fatalf("On(%08X) of no bytes: %08X, %08X", s, first, second)
		}
	}
}

func TestPromise3_1SealAppendsTheSum(t *testing.T) {
	for _, b := range samples() {
		if got := sum.Seal(b); !slices.Equal(got, sealed(b)) {
			t.Fatalf("Seal of %d bytes %.60x: %x", len(b), b, got)
		}
	}
	for s, want := range map[string][]byte{
		"":          {0, 0, 0, 0},
		"123456789": {'1', '2', '3', '4', '5', '6', '7', '8', '9', 0xCB, 0xF4, 0x39, 0x26},
		"a":         {'a', 0xE8, 0xB7, 0xBE, 0x43},
	} {
		if got := sum.Seal([]byte(s)); !slices.Equal(got, want) {
			t.Fatalf("Seal(%q) = %x", s, got)
		}
	}
}

func TestPromise3_1OpenOfFewerThanFourBytes(t *testing.T) {
	checkOpen(t, nil, nil, api.ErrShort)
	for length := range 4 {
		checkOpen(t, make([]byte, length), nil, api.ErrShort)
		checkOpen(t, slices.Repeat([]byte{255}, length), nil, api.ErrShort)
		// What lies behind the list in memory is none of its bytes.
		checkOpen(t, make([]byte, length, 64), nil, api.ErrShort)
	}
}

func TestPromise3_1OpenOfFourBytesHoldsNothing(t *testing.T) {
	checkOpen(t, []byte{0, 0, 0, 0}, nil, api.OK)
	for at := range 4 {
		for c := 1; c < 256; c++ {
			b := make([]byte, 4)
			b[at] = byte(c)
			checkOpen(t, b, nil, api.ErrSum)
		}
	}
	checkOpen(t, []byte{255, 255, 255, 255}, nil, api.ErrSum)
}

func TestPromise3_1OpenRefusesOtherSums(t *testing.T) {
	for _, b := range [][]byte{
		[]byte("123456789"),
		append([]byte("123456789"), 0x26, 0x39, 0xF4, 0xCB), // the least significant byte first
		append([]byte("123456789"), 0x34, 0x0B, 0xC6, 0xD9), // not inverted at the end
		append([]byte("123456789"), 0, 0, 0, 0),
		append([]byte{0xCB, 0xF4, 0x39, 0x26}, "123456789"...), // ahead of its bytes
		sealed([]byte("123456789"))[:12],
		sealed([]byte("123456789"))[1:],
		append(sealed([]byte("123456789")), 0),
		make([]byte, 5),
		make([]byte, 8),
	} {
		checkOpen(t, b, nil, api.ErrSum)
	}
}

func TestPromise3_2OpenRestoresWhatSealWasGiven(t *testing.T) {
	for _, b := range samples() {
		checkOpen(t, sum.Seal(b), b, api.OK)
		checkOpen(t, sealed(b), b, api.OK)
		once := sum.Seal(b)
		checkOpen(t, sum.Seal(once), once, api.OK)
	}
}

func TestPromise3_2AChangedByteIsErrSum(t *testing.T) {
	contents := [][]byte{nil, {0}, {255}, []byte("ab"), []byte("123456789"), make([]byte, 64), slices.Repeat([]byte{255}, 64), pattern(300)}
	for _, content := range contents {
		b := sum.Seal(content)
		for at, old := range b {
			for change := 1; change < 256; change++ {
				b[at] = old ^ byte(change)
				checkOpen(t, b, nil, api.ErrSum)
			}
			b[at] = old
		}
		checkOpen(t, b, content, api.OK)
	}
}

func TestPromise3_2AChangedByteOfALongBufferIsErrSum(t *testing.T) {
	content := pattern(65536)
	b := sum.Seal(content)
	for _, at := range []int{0, 1, 255, 256, 32767, 32768, 65534, 65535, 65536, 65537, 65538, 65539} {
		for _, change := range []byte{1, 2, 64, 128, 255} {
			b[at] ^= change
			checkOpen(t, b, nil, api.ErrSum)
			b[at] ^= change
		}
	}
	checkOpen(t, b, content, api.OK)
}

func TestPromise3_2OnContinuesAChecksum(t *testing.T) {
	for _, b := range [][]byte{nil, []byte("123456789"), make([]byte, 40), slices.Repeat([]byte{255}, 40), pattern(700)} {
		whole := sum.Of(b)
		for cut := range len(b) + 1 {
			if got := sum.On(sum.Of(b[:cut]), b[cut:]); got != whole {
				t.Fatalf("%d bytes, cut at %d: %08X, want %08X", len(b), cut, got, whole)
			}
		}
		byByte := sum.Of(nil)
		for i := range b {
			byByte = sum.On(byByte, b[i:i+1])
		}
		if byByte != whole {
			t.Fatalf("%d bytes, one by one: %08X, want %08X", len(b), byByte, whole)
		}
	}
}

// R3: the arguments stay as they are, and what is returned shares no memory with them or with another result.
func TestResultsAreNewMemory(t *testing.T) {
	for _, length := range []int{0, 1, 4, 5, 300} {
		roomy := append(make([]byte, 0, length+64), pattern(length)...)
		whole := roomy[:cap(roomy)]
		before := slices.Clone(whole)
		first, second := sum.Seal(roomy), sum.Seal(roomy)
		overwrite(first)
		if !slices.Equal(whole, before) || !slices.Equal(second, sealed(roomy)) {
			t.Fatal("Seal shares memory", length)
		}
		buffer := slices.Clone(second)
		opened, _ := sum.Open(buffer)
		again, _ := sum.Open(buffer)
		overwrite(opened)
		_ = append(opened, 1, 2, 3, 4)
		if !slices.Equal(buffer, second) || !slices.Equal(again, roomy) {
			t.Fatal("Open shares memory", length)
		}
	}
}

// overwrite changes every byte of b.
func overwrite(b []byte) {
	for i := range b {
		b[i]++
	}
}

// P1 and R4: the same arguments give the same results, whatever was called in between.
func TestCallsRememberNothing(t *testing.T) {
	list := samples()
	first := make([]uint32, len(list))
	for i, b := range list {
		first[i] = sum.Of(b)
	}
	for i, b := range slices.Backward(list) {
		checkOpen(t, b[:min(len(b), 3)], nil, api.ErrShort)
		if again := sum.Of(b); again != first[i] {
			t.Fatalf("%.60x: first %08X, then %08X", b, first[i], again)
		}
	}
}

// FuzzPromise3_2 checks the sums against the library's, and Open against Seal.
func FuzzPromise3_2(f *testing.F) {
	f.Add([]byte("123456789"), uint32(0), 3, byte(1))
	f.Add([]byte{}, uint32(math.MaxUint32), 0, byte(255))
	f.Add([]byte{0, 0, 0, 0}, uint32(1), 7, byte(128))
	f.Fuzz(func(t *testing.T, b []byte, s uint32, at int, change byte) {
		if sum.Of(b) != crc32.ChecksumIEEE(b) || sum.On(s, b) != crc32.Update(s, crc32.IEEETable, b) {
			t.Fatalf("sums of %x on %08X", b, s)
		}
		buffer := sum.Seal(b)
		checkOpen(t, buffer, b, api.OK)
		buffer[uint(at)%uint(len(buffer))] ^= change | 1
		checkOpen(t, buffer, nil, api.ErrSum)
		if _, err := sum.Open(b); err == api.OK != (len(b) >= 4 && slices.Equal(b, sealed(b[:max(len(b)-4, 0)]))) {
			t.Fatalf("Open of %x: error %d", b, int(err))
		}
	})
}
