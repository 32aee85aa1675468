package wire_test

import (
	"bytes"
	"encoding/binary"
	"math"
	"slices"
	"strings"
	"testing"

	"clew/api"
	"clew/wire"
)

// mostSize is the greatest number of five groups.
const mostSize = 1<<35 - 1

// fronts are what an encoding can be appended to, one of them with room that must stay as it is.
func fronts() [][]byte {
	roomy := append(make([]byte, 0, 64), 7, 0, 255)
	return [][]byte{nil, {}, {0}, {1, 2, 3}, roomy}
}

// numbers are those around all powers of two, of both signs.
func numbers() []int {
	list := []int{math.MinInt, math.MaxInt}
	for shift := range 63 {
		for offset := -2; offset <= 2; offset++ {
			list = append(list, 1<<shift+offset, -1<<shift+offset)
		}
	}
	slices.Sort(list)
	return slices.Compact(list)
}

// checkAppended checks that an encoding stands behind every front, in memory of its own.
func checkAppended(t *testing.T, name string, encode func(b []byte) []byte, want []byte) {
	t.Helper()
	for _, front := range fronts() {
		whole := front[:cap(front)]
		before := slices.Clone(whole)
		first, second := encode(front), encode(front)
		if expected := append(slices.Clone(front), want...); !slices.Equal(first, expected) || !slices.Equal(second, expected) {
			t.Fatalf("%s behind %v: %v, want %v", name, front, first, expected)
		}
		for i := range first {
			first[i]++
		}
		grown := append(second, 99)
		if !slices.Equal(whole, before) || !slices.Equal(grown[:len(front)], front) || !slices.Equal(grown[len(front):len(grown)-1], want) {
			t.Fatalf("%s behind %v shares memory", name, front)
		}
	}
}

func TestPromise2_1ByteIsTheLowestByte(t *testing.T) {
	for _, n := range numbers() {
		checkAppended(t, "Byte", func(b []byte) []byte { return wire.Byte(b, n) }, []byte{byte(n)})
	}
	for n := -600; n <= 600; n++ {
		if got := wire.Byte(nil, n); int(got[0]) != (n%256+256)%256 {
			t.Fatal(n, got)
		}
	}
}

func TestPromise2_1WordIsTwoBytes(t *testing.T) {
	for _, n := range numbers() {
		want := binary.BigEndian.AppendUint16(nil, uint16(n))
		checkAppended(t, "Word", func(b []byte) []byte { return wire.Word(b, n) }, want)
	}
	if got := wire.Word(nil, -2); !slices.Equal(got, []byte{255, 254}) {
		t.Fatal(got)
	}
}

func TestPromise2_1LongIsFourBytesAndHugeEight(t *testing.T) {
	for _, n := range numbers() {
		long := binary.BigEndian.AppendUint32(nil, uint32(n))
		checkAppended(t, "Long", func(b []byte) []byte { return wire.Long(b, uint32(n)) }, long)
		huge := binary.BigEndian.AppendUint64(nil, uint64(n))
		checkAppended(t, "Huge", func(b []byte) []byte { return wire.Huge(b, uint64(n)) }, huge)
	}
}

func TestPromise2_1SizeIsAVarint(t *testing.T) {
	for _, n := range numbers() {
		want := binary.AppendUvarint(nil, uint64(max(n, 0)))
		checkAppended(t, "Size", func(b []byte) []byte { return wire.Size(b, n) }, want)
	}
	for n, want := range map[int][]byte{0: {0}, 1: {1}, 127: {127}, 128: {128, 1}, 300: {172, 2}, 16383: {255, 127}, 16384: {128, 128, 1}, -1: {0}, math.MinInt: {0}} {
		if got := wire.Size(nil, n); !slices.Equal(got, want) {
			t.Fatal(n, got)
		}
	}
}

func TestPromise2_1TextIsItsLengthAndItsBytes(t *testing.T) {
	for _, s := range []string{"", "a", "ab\x00\xff", strings.Repeat("x", 127), strings.Repeat("y", 128), strings.Repeat("z", 20000)} {
		want := append(binary.AppendUvarint(nil, uint64(len(s))), s...)
		checkAppended(t, "Text", func(b []byte) []byte { return wire.Text(b, s) }, want)
	}
}

func TestPromise2_1IntsIsTheirNumberAndTheirWords(t *testing.T) {
	for _, l := range [][]int{nil, {}, {0}, {-1, 40000, 65536, math.MinInt, math.MaxInt}, make([]int, 127), make([]int, 128), numbers()} {
		want := binary.AppendUvarint(nil, uint64(len(l)))
		for _, n := range l {
			want = binary.BigEndian.AppendUint16(want, uint16(n))
		}
		before := slices.Clone(l)
		checkAppended(t, "Ints", func(b []byte) []byte { return wire.Ints(b, l) }, want)
		if !slices.Equal(l, before) {
			t.Fatal("changed", l)
		}
	}
}

// taker is one of the Take functions, whose value is told as one that can be compared: nil is the zero value.
type taker struct {
	name string
	take func(r api.Reader) (any, api.Reader)
}

// nonzero is v, or nil if it is the zero value of its type.
func nonzero[T comparable](v T) any {
	if v == *new(T) {
		return nil
	}
	return v
}

// takers are all Take functions; those with a greatest number are given most.
func takers(most int) []taker {
	return []taker{
		{"TakeByte", func(r api.Reader) (any, api.Reader) { v, r := wire.TakeByte(r); return nonzero(v), r }},
		{"TakeWord", func(r api.Reader) (any, api.Reader) { v, r := wire.TakeWord(r); return nonzero(v), r }},
		{"TakeLong", func(r api.Reader) (any, api.Reader) { v, r := wire.TakeLong(r); return nonzero(v), r }},
		{"TakeHuge", func(r api.Reader) (any, api.Reader) { v, r := wire.TakeHuge(r); return nonzero(v), r }},
		{"TakeSize", func(r api.Reader) (any, api.Reader) { v, r := wire.TakeSize(r, most); return nonzero(v), r }},
		{"TakeText", func(r api.Reader) (any, api.Reader) { v, r := wire.TakeText(r, most); return nonzero(v), r }},
		{"TakeInts", func(r api.Reader) (any, api.Reader) {
			v, r := wire.TakeInts(r, most)
			if len(v) == 0 {
				return nil, r
			}
			return v, r
		}},
	}
}

func sameReader(a, b api.Reader) bool {
	return a.At == b.At && a.Err == b.Err && bytes.Equal(a.Bytes, b.Bytes)
}

func TestPromise2_2AReaderWithAnErrorStays(t *testing.T) {
	for _, x := range takers(1000) {
		for _, at := range []int{math.MinInt, -1, 0, 1, 9, 10, 11, math.MaxInt} {
			for _, err := range []api.Errno{api.ErrArg, api.ErrShort, api.ErrForm, api.ErrStop, -1, 99} {
				r := api.Reader{Bytes: []byte{1, 2, 3, 4, 5, 6, 7, 8, 9, 10}, At: at, Err: err}
				if v, got := x.take(r); v != nil || !sameReader(got, r) {
					t.Fatal(x.name, r, v, got)
				}
			}
		}
	}
}

func TestPromise2_2APlaceOutsideTheBytesIsShort(t *testing.T) {
	for _, x := range takers(1000) {
		for _, list := range [][]byte{nil, {1}, {1, 2, 3, 4, 5, 6, 7, 8, 9, 10}} {
			for _, at := range []int{math.MinInt, math.MinInt + 1, -1, len(list), len(list) + 1, math.MaxInt - 1, math.MaxInt} {
				r := api.Reader{Bytes: list, At: at}
				want := api.Reader{Bytes: list, At: at, Err: api.ErrShort}
				if v, got := x.take(r); v != nil || !sameReader(got, want) {
					t.Fatal(x.name, r, v, got)
				}
			}
		}
	}
}

func TestPromise2_2NumbersOfAFixedLength(t *testing.T) {
	list := []byte{0, 255, 128, 0, 127, 255, 1, 254, 3, 200, 5, 0, 255, 255, 255, 255, 255, 255, 255, 255}
	before := slices.Clone(list)
	want := map[string]struct {
		length int
		value  func(b []byte) any
	}{
		"TakeByte": {1, func(b []byte) any { return nonzero(int(b[0])) }},
		"TakeWord": {2, func(b []byte) any { return nonzero(int(int16(binary.BigEndian.Uint16(b)))) }},
		"TakeLong": {4, func(b []byte) any { return nonzero(binary.BigEndian.Uint32(b)) }},
		"TakeHuge": {8, func(b []byte) any { return nonzero(binary.BigEndian.Uint64(b)) }},
	}
	for _, x := range takers(0) {
		kind, ok := want[x.name]
		if !ok {
			continue
		}
		for at := range len(list) + 1 {
			r := api.Reader{Bytes: list, At: at}
			v, got := x.take(r)
			if at+kind.length > len(list) {
				if v != nil || !sameReader(got, api.Reader{Bytes: list, At: at, Err: api.ErrShort}) {
					t.Fatal(x.name, at, v, got)
				}
			} else if v != kind.value(list[at:]) || !sameReader(got, api.Reader{Bytes: list, At: at + kind.length}) {
				t.Fatal(x.name, at, v, got)
			}
		}
	}
	if !slices.Equal(list, before) {
		t.Fatal("changed", list)
	}
}

func TestPromise2_2EveryWordIsTakenAsAValue(t *testing.T) {
	for n := -32768; n <= 32767; n++ {
		if v, r := wire.TakeWord(api.Reader{Bytes: wire.Word(nil, n)}); v != n || r.At != 2 || r.Err != api.OK {
			t.Fatal(n, v, r)
		}
	}
}

func TestPromise2_2Varints(t *testing.T) {
	const most = math.MaxInt
	for _, x := range []struct {
		list []byte
		most int
		n    int
		err  api.Errno
	}{
		{nil, most, 0, api.ErrShort},
		{[]byte{0}, most, 0, api.OK},
		{[]byte{127}, most, 127, api.OK},
		{[]byte{128}, most, 0, api.ErrShort},
		{[]byte{255}, most, 0, api.ErrShort},
		{[]byte{255}, -1, 0, api.ErrShort},
		{[]byte{128, 0}, most, 0, api.ErrForm},
		{[]byte{255, 0}, most, 0, api.ErrForm},
		{[]byte{255, 0}, -1, 0, api.ErrForm},
		{[]byte{255, 0}, 126, 0, api.ErrForm},
		{[]byte{128, 1}, most, 128, api.OK},
		{[]byte{172, 2}, most, 300, api.OK},
		{[]byte{172, 2, 9}, most, 300, api.OK},
		{[]byte{172, 2}, 300, 300, api.OK},
		{[]byte{172, 2}, 299, 0, api.ErrRange},
		{[]byte{255, 255}, 3, 0, api.ErrShort},
		{[]byte{128, 128, 0}, most, 0, api.ErrForm},
		{[]byte{128, 128, 1}, most, 1 << 14, api.OK},
		{[]byte{255, 255, 255, 127}, most, 1<<28 - 1, api.OK},
		{[]byte{128, 128, 128, 0}, most, 0, api.ErrForm},
		{[]byte{255, 255, 255, 255}, most, 0, api.ErrShort},
		{[]byte{128, 128, 128, 128, 1}, most, 1 << 28, api.OK},
		{[]byte{255, 255, 255, 255, 7}, 1<<31 - 1, 1<<31 - 1, api.OK},
		{[]byte{255, 255, 255, 255, 7}, 1<<31 - 2, 0, api.ErrRange},
		{[]byte{255, 255, 255, 255, 127}, mostSize, mostSize, api.OK},
		{[]byte{255, 255, 255, 255, 127}, mostSize - 1, 0, api.ErrRange},
		{[]byte{128, 128, 128, 128, 0}, most, 0, api.ErrForm},
		{[]byte{128, 128, 128, 128, 128}, most, 0, api.ErrShort},
		{[]byte{255, 255, 255, 255, 255}, 0, 0, api.ErrShort},
		{[]byte{128, 128, 128, 128, 128, 0}, most, 0, api.ErrForm},
		{[]byte{128, 128, 128, 128, 128, 1}, most, 0, api.ErrForm},
		{[]byte{255, 255, 255, 255, 255, 1}, 0, 0, api.ErrForm},
		{[]byte{128, 128, 128, 128, 128, 128}, most, 0, api.ErrForm},
		{[]byte{128, 128, 128, 128, 128, 128, 1}, most, 0, api.ErrForm},
		{[]byte{0}, 0, 0, api.OK},
		{[]byte{0}, -1, 0, api.ErrRange},
		{[]byte{0}, math.MinInt, 0, api.ErrRange},
		{[]byte{1}, 0, 0, api.ErrRange},
	} {
		for _, front := range [][]byte{nil, {255, 0}} {
			r := api.Reader{Bytes: append(slices.Clone(front), x.list...), At: len(front)}
			want := r
			want.Err = x.err
			if x.err == api.OK {
				want.At += len(wire.Size(nil, x.n))
			}
			if n, got := wire.TakeSize(r, x.most); n != x.n || !sameReader(got, want) {
				t.Fatal(x, n, got)
			}
		}
	}
}

func TestPromise2_2WhatSizeWritesIsTaken(t *testing.T) {
	for _, n := range numbers() {
		r := api.Reader{Bytes: wire.Size(nil, n)}
		got, behind := wire.TakeSize(r, math.MaxInt)
		switch {
		case n > mostSize && (got != 0 || behind.Err != api.ErrForm || behind.At != 0):
			t.Fatal(n, got, behind)
		case n <= mostSize && (got != max(n, 0) || wire.End(behind) != api.OK):
			t.Fatal(n, got, behind)
		}
	}
}

func TestPromise2_2Texts(t *testing.T) {
	for _, s := range []string{"", "a", "ab\x00\xff", strings.Repeat("x", 127), strings.Repeat("y", 128), strings.Repeat("z", 20000)} {
		list := append(wire.Text([]byte{200}, s), 5)
		r := api.Reader{Bytes: list, At: 1}
		if got, behind := wire.TakeText(r, len(s)); got != s || behind.At != len(list)-1 || behind.Err != api.OK {
			t.Fatal(len(s), got, behind.At, behind.Err)
		}
		if got, behind := wire.TakeText(r, len(s)-1); got != "" || behind.At != 1 || behind.Err != api.ErrRange {
			t.Fatal(len(s), got, behind.At, behind.Err)
		}
		r.Bytes = list[:len(list)-2]
		if got, behind := wire.TakeText(r, len(s)); got != "" || behind.At != 1 || behind.Err != api.ErrShort {
			t.Fatal(len(s), got, behind.At, behind.Err)
		}
	}
}

func TestPromise2_2Lists(t *testing.T) {
	for _, l := range [][]int{nil, {0}, {-32768, -1, 0, 1, 32767}, make([]int, 127), make([]int, 128), make([]int, 20000)} {
		list := append(wire.Ints([]byte{200}, l), 5)
		r := api.Reader{Bytes: list, At: 1}
		if got, behind := wire.TakeInts(r, len(l)); !slices.Equal(got, l) || behind.At != len(list)-1 || behind.Err != api.OK {
			t.Fatal(len(l), got, behind.At, behind.Err)
		}
		if got, behind := wire.TakeInts(r, len(l)-1); len(got) != 0 || behind.At != 1 || behind.Err != api.ErrRange {
			t.Fatal(len(l), got, behind.At, behind.Err)
		}
		r.Bytes = list[:len(list)-2]
		if got, behind := wire.TakeInts(r, len(l)); len(got) != 0 || behind.At != 1 || behind.Err != api.ErrShort {
			t.Fatal(len(l), got, behind.At, behind.Err)
		}
	}
	if l, _ := wire.TakeInts(api.Reader{Bytes: wire.Ints(nil, []int{40000, 65536 + 7})}, 2); !slices.Equal(l, []int{40000 - 65536, 7}) {
		t.Fatal(l)
	}
}

func TestPromise2_2LengthsThatAreWrong(t *testing.T) {
	for _, x := range []struct {
		list []byte
		most int
		err  api.Errno
	}{
		{[]byte{128}, 9, api.ErrShort},
		{[]byte{128, 0}, 9, api.ErrForm},
		{[]byte{3, 0, 1}, 2, api.ErrRange},
		{[]byte{3, 0}, 3, api.ErrShort},
		{[]byte{0}, -1, api.ErrRange},
		{[]byte{255, 255, 255, 255, 127, 1, 2, 3}, math.MaxInt, api.ErrShort},
		{[]byte{255, 255, 255, 255, 255, 127, 2, 3}, math.MaxInt, api.ErrForm},
	} {
		r := api.Reader{Bytes: x.list}
		want := api.Reader{Bytes: x.list, Err: x.err}
		if s, got := wire.TakeText(r, x.most); s != "" || !sameReader(got, want) {
			t.Fatal(x, s, got)
		}
		if l, got := wire.TakeInts(r, x.most); len(l) != 0 || !sameReader(got, want) {
			t.Fatal(x, l, got)
		}
	}
}

func TestPromise2_2EmptyContentsAtTheEnd(t *testing.T) {
	r := api.Reader{Bytes: []byte{9, 0}, At: 1}
	if s, behind := wire.TakeText(r, 0); s != "" || wire.End(behind) != api.OK || behind.At != 2 {
		t.Fatal(s, behind)
	}
	if l, behind := wire.TakeInts(r, 0); len(l) != 0 || wire.End(behind) != api.OK || behind.At != 2 {
		t.Fatal(l, behind)
	}
}

func TestPromise2_3End(t *testing.T) {
	list := []byte{1, 2, 3}
	for at, want := range map[int]api.Errno{math.MinInt: api.ErrLong, -1: api.ErrLong, 0: api.ErrLong, 2: api.ErrLong, 3: api.OK, 4: api.OK, math.MaxInt: api.OK} {
		if got := wire.End(api.Reader{Bytes: list, At: at}); got != want {
			t.Fatal(at, got)
		}
		for _, err := range []api.Errno{api.ErrArg, api.ErrShort, api.ErrStop, -1, 99} {
			if got := wire.End(api.Reader{Bytes: list, At: at, Err: err}); got != err {
				t.Fatal(at, err, got)
			}
		}
	}
	if got := wire.End(api.Reader{}); got != api.OK {
		t.Fatal(got)
	}
}

// FuzzPromise2_2 checks that every Take function moves a reader behind what it took, or leaves it with an error.
func FuzzPromise2_2(f *testing.F) {
	f.Add([]byte{172, 2, 0, 1}, 0, 300)
	f.Add([]byte{2, 255, 255, 0, 1}, 0, 2)
	f.Fuzz(func(t *testing.T, list []byte, at, most int) {
		for _, x := range takers(most) {
			r := api.Reader{Bytes: list, At: at}
			v, got := x.take(r)
			moved := got.Err == api.OK && got.At > at && got.At <= len(list)
			stayed := got.Err != api.OK && got.At == at && v == nil
			if !moved && !stayed {
				t.Fatal(x.name, r, v, got)
			}
		}
	})
}
