package tests

import (
	"bytes"
	"hash/adler32"
	"math"
	"slices"
	"testing"

	"loop.example/easel/impl"
)

const (
	mostBits = 8 * impl.BytMost
	modulus  = 65521
)

// packed packs bit numbers by way of a list of single bits, as the chapter describes it.
func packed(list []impl.BitNum) []byte {
	var single []byte
	for _, b := range list {
		for k := range b.Bits {
			single = append(single, byte(b.N>>k&1))
		}
	}
	out := make([]byte, (len(single)+7)/8)
	for k, bit := range single {
		out[k/8] |= bit << (k % 8)
	}
	return out
}

func bitsOf(list []impl.BitNum) int {
	sum := 0
	for _, b := range list {
		sum += b.Bits
	}
	return sum
}

// numbers returns n valid bit numbers, all of the same width, or of different ones if width is 0.
func numbers(n int, width int, seed int) []impl.BitNum {
	list := make([]impl.BitNum, n)
	for k := range list {
		bits := width
		if bits == 0 {
			bits = 1 + (5*k+seed+k*k/7)%impl.BitMost
		}
		list[k] = impl.BitNum{N: (seed + 2654435*k + k*k) % (1 << bits), Bits: bits}
	}
	return list
}

// same returns n times one number.
func same(n int, number int, bits int) []impl.BitNum {
	return slices.Repeat([]impl.BitNum{{N: number, Bits: bits}}, n)
}

// numberLists are lists that fit into BytMost bytes.
func numberLists() [][]impl.BitNum {
	lists := [][]impl.BitNum{
		nil, {},
		{{N: 0, Bits: 1}}, {{N: 1, Bits: 1}}, {{N: 0, Bits: 12}}, {{N: 4095, Bits: 12}}, {{N: 2048, Bits: 12}}, {{N: 1, Bits: 12}},
		{{N: 5, Bits: 3}, {N: 300, Bits: 9}, {N: 1, Bits: 1}},
		{{N: 127, Bits: 7}, {N: 2, Bits: 2}, {N: 1, Bits: 1}},    // the second one extends over two bytes
		{{N: 0, Bits: 7}, {N: 0xA5B, Bits: 12}, {N: 1, Bits: 1}}, // the second one extends over three
		{{N: 1, Bits: 5}, {N: 4095, Bits: 12}}, {{N: 1, Bits: 6}, {N: 2047, Bits: 11}}, {{N: 1, Bits: 4}, {N: 4094, Bits: 12}},
		same(mostBits, 1, 1), same(impl.BytMost, 255, 8), same(mostBits/12, 4095, 12), append(same(mostBits/12, 2049, 12), same(1, 255, 8)...),
	}
	for width := range impl.BitMost + 1 {
		for _, n := range []int{1, 2, 3, 7, 8, 9, 40, 200, 266} {
			lists = append(lists, numbers(n, width, n+width))
		}
	}
	return lists
}

// Promise 15: bit numbers are read back.

func TestBitsOfKnownNumbers(t *testing.T) {
	cases := []struct {
		list []impl.BitNum
		want []byte
	}{
		{nil, nil}, {[]impl.BitNum{}, nil},
		{[]impl.BitNum{{N: 1, Bits: 1}}, []byte{1}}, {[]impl.BitNum{{N: 0, Bits: 1}}, []byte{0}},
		{[]impl.BitNum{{N: 0, Bits: 1}, {N: 1, Bits: 1}}, []byte{2}},
		{[]impl.BitNum{{N: 4095, Bits: 12}}, []byte{255, 15}},
		{[]impl.BitNum{{N: 0x123, Bits: 12}, {N: 0x456, Bits: 12}}, []byte{0x23, 0x61, 0x45}},
		{[]impl.BitNum{{N: 5, Bits: 3}, {N: 300, Bits: 9}, {N: 1, Bits: 1}}, []byte{101, 25}},
		{[]impl.BitNum{{N: 0, Bits: 7}, {N: 4095, Bits: 12}}, []byte{128, 255, 7}},
		{[]impl.BitNum{{N: 0, Bits: 7}, {N: 3, Bits: 2}}, []byte{128, 1}},
	}
	for _, c := range cases {
		if got := impl.BitPut(c.list); !bytes.Equal(got, c.want) {
			t.Errorf("%v is written as %v, not %v", c.list, got, c.want)
		}
	}
}

func TestBitsAreReadBack(t *testing.T) {
	for _, list := range numberLists() {
		got := impl.BitPut(list)
		if len(got) != (bitsOf(list)+7)/8 || !bytes.Equal(got, packed(list)) {
			t.Fatalf("%v is written as %v, not %v", list, got, packed(list))
		}
		at := 0
		for _, b := range list {
			if n, ok := impl.BitGet(got, at, b.Bits); !ok || n != b.N {
				t.Fatalf("%v of %v is read as %d, %v", b, list, n, ok)
			}
			at += b.Bits
		}
	}
}

func TestLastByteIsPaddedWithZeros(t *testing.T) {
	for _, list := range numberLists() {
		got := impl.BitPut(list)
		for at := bitsOf(list); at < 8*len(got); at++ {
			if n, ok := impl.BitGet(got, at, 1); !ok || n != 0 {
				t.Fatalf("bit %d of %v is %d, %v", at, list, n, ok)
			}
		}
	}
}

func TestNothingIsReadAfterTheEnd(t *testing.T) {
	for _, size := range []int{0, 1, 2, 3, 17, impl.BytMost, impl.BytMost + 1, 5000} {
		list := bytes.Repeat([]byte{255}, size)
		for bits := 1; bits <= impl.BitMost; bits++ {
			for at := max(0, 8*size-2*impl.BitMost); at <= 8*size+2*impl.BitMost; at++ {
				n, ok := impl.BitGet(list, at, bits)
				if want := at+bits <= 8*size; ok != want || ok && n != 1<<bits-1 || !ok && n != 0 {
					t.Fatalf("%d bits at %d of %d bytes are %d, %v", bits, at, size, n, ok)
				}
			}
		}
	}
}

func TestReadingOfInvalidPositions(t *testing.T) {
	list := bytes.Repeat([]byte{255}, 9)
	for _, at := range []int{-1, -2, -7, -8, -9, -64, -72, math.MinInt, math.MinInt + 1, 72, 73, 80, 1 << 20, 1 << 32, 1 << 35, 1 << 60, 1<<61 + 8, math.MaxInt - 12, math.MaxInt - 1, math.MaxInt} {
		for bits := 1; bits <= impl.BitMost; bits++ {
			if n, ok := impl.BitGet(list, at, bits); ok || n != 0 {
				t.Errorf("%d bits at %d are %d, %v", bits, at, n, ok)
			}
		}
	}
}

func TestReadingOfInvalidWidths(t *testing.T) {
	list := bytes.Repeat([]byte{255}, 9)
	for _, bits := range []int{0, -1, -8, -12, math.MinInt, impl.BitMost + 1, 16, 63, 64, 65, 72, 256 + 8, 1<<32 + 8, math.MaxInt} {
		for _, at := range []int{-1, 0, 1, 8, 60, 71, 72, 73, math.MaxInt} {
			if n, ok := impl.BitGet(list, at, bits); ok || n != 0 {
				t.Errorf("%d bits at %d are %d, %v", bits, at, n, ok)
			}
		}
	}
}

func TestWritingOfTooManyBits(t *testing.T) {
	for bits := 1; bits <= impl.BitMost; bits++ {
		fits := mostBits / bits
		for _, number := range []int{0, 1, 1<<bits - 1} {
			if got := impl.BitPut(same(fits, number, bits)); len(got) != (fits*bits+7)/8 {
				t.Errorf("%d numbers of %d bits are written as %d bytes", fits, bits, len(got))
			}
			for _, n := range []int{fits + 1, fits + 2, 2 * fits, 9000} {
				if got := impl.BitPut(same(n, number, bits)); got != nil {
					t.Errorf("%d numbers of %d bits are written as %d bytes", n, bits, len(got))
				}
			}
		}
	}
	for bits := 1; bits <= impl.BitMost; bits++ {
		full := append(same(mostBits-bits, 1, 1), same(1, 1, bits)...)
		if got := impl.BitPut(full); len(got) != impl.BytMost {
			t.Errorf("exactly BytMost bytes with a last number of %d bits are %d", bits, len(got))
		}
		for more := 1; more <= impl.BitMost; more++ {
			if got := impl.BitPut(append(slices.Clone(full), same(1, 0, more)...)); got != nil {
				t.Errorf("%d bits more than BytMost bytes are written as %d bytes", more, len(got))
			}
		}
		for short := range bits {
			if got := impl.BitPut(append(same(mostBits-short, 0, 1), same(1, 0, bits)...)); got != nil {
				t.Errorf("%d bits where %d are left are written as %d bytes", bits, short, len(got))
			}
		}
	}
}

func invalidNumbers() []impl.BitNum {
	list := []impl.BitNum{
		{N: 0, Bits: 0}, {N: 1, Bits: 0}, {N: -1, Bits: 0}, {N: 0, Bits: -1}, {N: 1, Bits: -1}, {N: 0, Bits: math.MinInt}, {N: 0, Bits: -12},
		{N: 0, Bits: 13}, {N: 1, Bits: 13}, {N: 8191, Bits: 13}, {N: 0, Bits: 16}, {N: 0, Bits: 63}, {N: 0, Bits: 64}, {N: 0, Bits: 65}, {N: 0, Bits: 256 + 3}, {N: 0, Bits: math.MaxInt},
	}
	for bits := 1; bits <= impl.BitMost; bits++ {
		for _, n := range []int{-1, -2, -1 << bits, math.MinInt, 1 << bits, 1<<bits + 1, 1 << 12, 1 << 32, 1<<32 + 1, math.MaxInt} {
			list = append(list, impl.BitNum{N: n, Bits: bits})
		}
	}
	return list
}

func TestInvalidNumbersAreNotWritten(t *testing.T) {
	for _, b := range invalidNumbers() {
		if impl.BitOk(b) {
			t.Errorf("%v is valid", b)
		}
		for _, list := range [][]impl.BitNum{
			{b}, {b, {N: 1, Bits: 1}}, {{N: 1, Bits: 1}, b}, {{N: 3, Bits: 8}, b, {N: 3, Bits: 8}}, append(same(mostBits, 1, 1), b), append([]impl.BitNum{b}, same(9000, 1, 1)...),
		} {
			if got := impl.BitPut(list); got != nil {
				t.Errorf("a list with %v is written as %v", b, got)
			}
		}
	}
}

// Promise 16: a number consists of its lower and higher bits.

func TestLowerAndHigherBitsAreTheNumber(t *testing.T) {
	for _, list := range [][]byte{filled(7, 3), bytes.Repeat([]byte{255}, 5), {1, 128, 1, 128}, {0xA5, 0x5A, 0xC3}, make([]byte, 4), {255}} {
		for at := range 8 * len(list) {
			for low := 1; low < impl.BitMost; low++ {
				for high := 1; low+high <= impl.BitMost; high++ {
					lower, okLower := impl.BitGet(list, at, low)
					higher, okHigher := impl.BitGet(list, at+low, high)
					both, ok := impl.BitGet(list, at, low+high)
					if ok != (okLower && okHigher) || ok != (at+low+high <= 8*len(list)) {
						t.Fatalf("%d and %d bits at %d of %v: %v, %v, %v", low, high, at, list, okLower, okHigher, ok)
					}
					if !ok {
						continue
					}
					if both != lower+higher<<low || !impl.BitOk(impl.BitNum{N: both, Bits: low + high}) {
						t.Fatalf("%d and %d bits at %d of %v are %d, %d and %d", low, high, at, list, lower, higher, both)
					}
				}
			}
		}
	}
}

func TestEachBitIsThatOfItsByte(t *testing.T) {
	list := filled(40, 9)
	for at := range 8 * len(list) {
		if n, ok := impl.BitGet(list, at, 1); !ok || n != int(list[at/8]>>(at%8))&1 {
			t.Errorf("bit %d is %d, %v", at, n, ok)
		}
	}
}

// Promise 17: a valid bit number needs no further bit.

func TestValidNumbersStayValid(t *testing.T) {
	for bits := -2; bits <= impl.BitMost+2; bits++ {
		for n := -3; n <= 1<<(impl.BitMost+1)+1; n++ {
			valid := impl.BitOk(impl.BitNum{N: n, Bits: bits})
			if want := bits >= 1 && bits <= 12 && n >= 0 && n < 1<<max(bits, 0); valid != want {
				t.Fatalf("%d of %d bits: valid is %v", n, bits, valid)
			}
			if !valid {
				continue
			}
			more := bits+1 <= impl.BitMost
			if impl.BitOk(impl.BitNum{N: n, Bits: bits + 1}) != more || impl.BitOk(impl.BitNum{N: 2*n + 1, Bits: bits + 1}) != more {
				t.Fatalf("%d of %d bits, with one bit more, is not as it should be", n, bits)
			}
		}
	}
}

// Promise 18: the checksum can be continued.

func sumLists() [][]byte {
	lists := [][]byte{nil, {}, {0}, {1}, {255}, {0, 0}, []byte("Wikipedia"), make([]byte, 70000), bytes.Repeat([]byte{255}, 70000)}
	for _, n := range []int{1, 2, 5, 17, 147, 256, 257, impl.BytMost, impl.BytMost + 1, 5553, 70001} {
		lists = append(lists, filled(n, n), bytes.Repeat([]byte{255}, n))
	}
	return lists
}

func TestSumsOfKnownBytes(t *testing.T) {
	cases := []struct {
		text string
		want int
	}{
		{"", 1}, {"\x00", 65537}, {"\x01", 2*65536 + 2}, {"a", 0x00620062}, {"abc", 0x024d0127}, {"Wikipedia", 0x11e60398}, {"\xff\xff", 768*65536 - 65536 + 511},
	}
	for _, c := range cases {
		if got := impl.SumOf([]byte(c.text)); got != c.want {
			t.Errorf("the checksum of %q is %#x, not %#x", c.text, got, c.want)
		}
	}
	if impl.SumOf(nil) != 1 {
		t.Error("the checksum of nil is not 1")
	}
	for _, list := range sumLists() {
		if got, want := impl.SumOf(list), int(adler32.Checksum(list)); got != want {
			t.Errorf("the checksum of %d bytes is %#x, not %#x", len(list), got, want)
		}
	}
}

func TestSumIsContinued(t *testing.T) {
	for _, list := range sumLists() {
		sum := impl.SumOf(list)
		for next := range 256 {
			if len(list) > 6000 && next%85 != 0 {
				continue
			}
			a := (sum%65536 + next) % modulus
			b := (sum/65536 + a) % modulus
			if got := impl.SumOf(append(slices.Clone(list), byte(next))); got != b*65536+a {
				t.Fatalf("the checksum of %d bytes and %d is %#x, not %#x", len(list), next, got, b*65536+a)
			}
		}
	}
}

func TestSumDiffersWithOneByte(t *testing.T) {
	for _, n := range []int{1, 2, 9, 60, 300} {
		list := filled(n, 5)
		sum := impl.SumOf(list)
		for k := range list {
			for by := 1; by < 256; by++ {
				other := slices.Clone(list)
				other[k] += byte(by)
				if impl.SumOf(other) == sum {
					t.Fatalf("byte %d of %d, changed by %d, makes no difference", k, n, by)
				}
			}
		}
	}
}

func TestSumDependsOnTheOrder(t *testing.T) {
	if impl.SumOf([]byte{1, 2}) == impl.SumOf([]byte{2, 1}) || impl.SumOf([]byte{0}) == impl.SumOf([]byte{0, 0}) {
		t.Error("the order or the number of bytes makes no difference")
	}
}

// Promise 64: numbers of whole bytes stand alone.

func wholeBytes(list []byte) []impl.BitNum {
	out := make([]impl.BitNum, len(list))
	for k, b := range list {
		out[k] = impl.BitNum{N: int(b), Bits: 8}
	}
	return out
}

func TestNumbersOfEightBitsAreTheirBytes(t *testing.T) {
	all := make([]byte, 256)
	for k := range all {
		all[k] = byte(k)
	}
	for _, list := range [][]byte{nil, {0}, {255}, {1, 2}, all, filled(impl.BytMost, 3), make([]byte, impl.BytMost)} {
		if got := impl.BitPut(wholeBytes(list)); !bytes.Equal(got, list) {
			t.Errorf("%v is written as %v", list, got)
		}
		for _, others := range numberLists() {
			got := impl.BitPut(append(wholeBytes(list), others...))
			if 8*len(list)+bitsOf(others) > mostBits {
				if got != nil {
					t.Errorf("%d bytes and %d bits are written as %d bytes", len(list), bitsOf(others), len(got))
				}
				continue
			}
			if want := append(slices.Clone(list), impl.BitPut(others)...); !bytes.Equal(got, want) {
				t.Errorf("%v and %v are written as %v, not %v", list, others, got, want)
			}
		}
	}
}

// Promise 65: checksums can be combined.

func TestSumsAreCombined(t *testing.T) {
	for _, first := range sumLists() {
		for _, second := range sumLists() {
			one, other := impl.SumOf(first), impl.SumOf(second)
			lower := (one%65536 + other%65536 - 1 + modulus) % modulus
			upper := (one/65536 + other/65536 + len(second)*(one%65536-1+modulus)) % modulus
			if got := impl.SumOf(slices.Concat(first, second)); got%65536 != lower || got/65536 != upper {
				t.Fatalf("the checksum of %d and %d bytes is %#x, not %#x", len(first), len(second), got, upper*65536+lower)
			}
		}
	}
}

// Promise 98: different numbers are written differently.

func TestDifferentNumbersAreWrittenDifferently(t *testing.T) {
	for _, widths := range [][]int{{1}, {12}, {8}, {1, 1, 1, 1, 1, 1, 1, 1, 1, 1}, {3, 4, 2}, {5, 6}, {7, 2, 1}, {4, 4, 2}, {1, 9}, {2, 2, 2, 3}} {
		total := 0
		for _, bits := range widths {
			total += bits
		}
		seen := map[string]int{}
		for choice := range 1 << total {
			var list []impl.BitNum
			rest := choice
			for _, bits := range widths {
				list = append(list, impl.BitNum{N: rest % (1 << bits), Bits: bits})
				rest >>= bits
			}
			text := string(impl.BitPut(list))
			if before, ok := seen[text]; ok {
				t.Fatalf("choices %d and %d of widths %v are written as %q", before, choice, widths, text)
			}
			if text != string(impl.BitPut(slices.Clone(list))) {
				t.Fatalf("%v is written in two ways", list)
			}
			seen[text] = choice
		}
	}
}

func TestOneBitMakesADifference(t *testing.T) {
	for _, list := range numberLists() {
		text := impl.BitPut(list)
		for k, b := range list {
			for bit := range b.Bits {
				if len(list) > 300 && (k+bit)%37 != 0 {
					continue
				}
				other := slices.Clone(list)
				other[k].N ^= 1 << bit
				if bytes.Equal(impl.BitPut(other), text) {
					t.Fatalf("bit %d of number %d of %v makes no difference", bit, k, list)
				}
			}
		}
	}
}

// The general rules: arguments are not written to, and results are new memory.

func TestArgumentsOfBitsStay(t *testing.T) {
	for _, n := range []int{0, 1, 2, 30, 267, 500} {
		whole := numbers(n+20, 0, 3)
		before := slices.Clone(whole)
		got := impl.BitPut(whole[:n])
		clear(got[:cap(got)])
		list, memory := spare(n, 4)
		bytesBefore := bytes.Clone(memory)
		impl.BitGet(list, n, 9)
		impl.BitGet(list, 8*n, 9)
		impl.SumOf(list)
		if !slices.Equal(whole, before) || !bytes.Equal(memory, bytesBefore) {
			t.Errorf("an argument of %d elements is written to", n)
		}
	}
}

func TestResultsOfBitPutAreNew(t *testing.T) {
	for _, list := range numberLists() {
		first := impl.BitPut(list)
		kept := bytes.Clone(first)
		second := impl.BitPut(list)
		clear(second[:cap(second)])
		if !bytes.Equal(first, kept) || !bytes.Equal(impl.BitPut(list), kept) {
			t.Errorf("writing to a result of %v changes others", list)
		}
	}
}
