package tests

import (
	"bytes"
	"slices"
	"testing"

	"loop.example/easel/impl"
)

// mostPacked is how many bytes are compressed at most.
const mostPacked = impl.BytMost / 2

// nineBits packs codes, whatever they are and however many.
func nineBits(codes ...int) []byte {
	list := make([]impl.BitNum, len(codes))
	for k, code := range codes {
		list[k] = impl.BitNum{N: code, Bits: 9}
	}
	return packed(list)
}

// ended returns codes with the end code behind them, packed.
func ended(codes ...int) []byte {
	return nineBits(append(slices.Clone(codes), impl.PakEnd)...)
}

// codesOf compresses by way of a map from strings to codes, as the chapter describes it; the end code is left out.
func codesOf(list []byte) []int {
	known := map[string]int{}
	for b := range 256 {
		known[string([]byte{byte(b)})] = b
	}
	var codes []int
	for next := impl.PakFirst; len(list) > 0; {
		size := 1
		for k := range list {
			if _, found := known[string(list[:k+1])]; found {
				size = k + 1
			}
		}
		codes = append(codes, known[string(list[:size])])
		if size < len(list) && next < impl.PakMost {
			known[string(list[:size+1])] = next
			next++
		}
		list = list[size:]
	}
	return codes
}

// unpacked decompresses by way of a map from codes to strings, as the chapter describes it.
func unpacked(list []byte) ([]byte, bool) {
	bit := func(at int) int { return int(list[at/8]) >> (at % 8) & 1 }
	known := map[int]string{}
	out, previous, next := "", "", impl.PakFirst
	for at := 0; at+9 <= 8*len(list); at += 9 {
		code := 0
		for k := range 9 {
			code |= bit(at+k) << k
		}
		if code == impl.PakEnd {
			left := 8*len(list) - (at + 9)
			if left >= 8 || left > 0 && list[len(list)-1]>>(8-left) > 0 {
				return nil, false
			}
			return []byte(out), true
		}
		text, found := known[code]
		if code < 256 {
			text, found = string([]byte{byte(code)}), true
		}
		if !found && at > 0 && code == next {
			text, found = previous+previous[:1], true
		}
		if !found || len(out)+len(text) > mostPacked {
			return nil, false
		}
		if at > 0 && next < impl.PakMost {
			known[next] = previous + text[:1]
			next++
		}
		out, previous = out+text, text
	}
	return nil, false
}

// noPairTwice returns n bytes below 20 in which no two adjacent bytes occur twice.
func noPairTwice(n int) []byte {
	var list []byte
	for a := range byte(20) {
		list = append(list, a)
		for b := a + 1; b < 20; b++ {
			list = append(list, a, b)
		}
	}
	return list[:n]
}

// mixed returns n bytes below most, without a pattern.
func mixed(n int, most int, seed uint32) []byte {
	list := make([]byte, n)
	for k := range list {
		seed = seed*1664525 + 1013904223
		list[k] = byte((seed >> 16) % uint32(most))
	}
	return list
}

// words returns all lists of at most n of these elements.
func words[T any](n int, elements ...T) [][]T {
	all := [][]T{nil}
	for start := 0; n > 0; n-- {
		end := len(all)
		for _, word := range all[start:end] {
			for _, e := range elements {
				all = append(all, append(slices.Clone(word), e))
			}
		}
		start = end
	}
	return all
}

// packLists are bytes that can be compressed.
func packLists() [][]byte {
	lists := words(9, byte(0), 255)
	lists = append(lists, words(5, byte('a'), 'b', 'c')...)
	for b := range 256 {
		lists = append(lists, []byte{byte(b)}, []byte{byte(b), byte(b)}, []byte{byte(b), byte(b), byte(b), byte(b)}, []byte{byte(b), byte(255 - b), byte(b)})
	}
	for n := range mostPacked + 1 {
		lists = append(lists, filled(n, n), bytes.Repeat([]byte{'a'}, n), make([]byte, n), noPairTwice(n), bytes.Repeat([]byte("ab"), n)[:n],
			bytes.Repeat([]byte("aab"), n)[:n], bytes.Repeat([]byte("abcabcd"), n)[:n])
		for _, most := range []int{2, 3, 16, 256} {
			lists = append(lists, mixed(n, most, uint32(n+most)))
		}
	}
	return lists
}

// longLists are bytes that cannot be compressed, because they are too many.
func longLists() [][]byte {
	var lists [][]byte
	for _, n := range []int{mostPacked + 1, mostPacked + 2, 255, 256, 257, 399, 400, 401, 1000, 100000} {
		lists = append(lists, make([]byte, n), filled(n, 3), bytes.Repeat([]byte("ab"), n)[:n])
	}
	return lists
}

// wantUnpacked checks the result of PakGet against what it should be, and that it is nothing if it is not accepted.
func wantUnpacked(t *testing.T, list []byte, want []byte, accepted bool) {
	t.Helper()
	got, ok := impl.PakGet(list)
	if ok != accepted || !bytes.Equal(got, want) {
		t.Fatalf("%v is decompressed to %v, %v, not to %v, %v", list, got, ok, want, accepted)
	}
	if !ok && got != nil {
		t.Fatalf("%v is not accepted, with %v beside it", list, got)
	}
}

// Promise 1: decompression inverts compression.

func TestCodesOfKnownBytes(t *testing.T) {
	for _, c := range []struct {
		text  string
		codes []int
	}{
		{"", nil}, {"a", []int{97}}, {"\x00", []int{0}}, {"\xff", []int{255}},
		{"aa", []int{97, 97}}, {"aaa", []int{97, 257}}, {"aaaa", []int{97, 257, 97}}, {"aaaaa", []int{97, 257, 257}}, {"aaaaaa", []int{97, 257, 258}},
		{"ab", []int{97, 98}}, {"abab", []int{97, 98, 257}}, {"ababab", []int{97, 98, 257, 257}}, {"abababa", []int{97, 98, 257, 259}}, {"abbb", []int{97, 98, 258}},
		{"TOBEORNOTTOBEORTOBEORNOT", []int{84, 79, 66, 69, 79, 82, 78, 79, 84, 257, 259, 261, 266, 260, 262, 264}},
	} {
		if got := impl.PakPut([]byte(c.text)); !bytes.Equal(got, ended(c.codes...)) {
			t.Errorf("%q is compressed to %v, not to %v", c.text, got, ended(c.codes...))
		}
		wantUnpacked(t, ended(c.codes...), []byte(c.text), true)
	}
}

func TestCompressedBytesOfKnownBytes(t *testing.T) {
	for _, c := range []struct {
		list []byte
		want []byte
	}{
		{nil, []byte{0, 1}}, {[]byte{}, []byte{0, 1}}, {[]byte{97}, []byte{0x61, 0, 2}}, {[]byte{255}, []byte{255, 0, 2}},
		{[]byte("aaaa"), []byte{0x61, 0x02, 0x86, 0x01, 0x08}},
		{[]byte{1, 2, 3, 4, 5, 6, 7}, []byte{1, 4, 12, 32, 80, 192, 192, 1, 128}}, // the end code fills the last byte
	} {
		if got := impl.PakPut(c.list); !bytes.Equal(got, c.want) {
			t.Errorf("%v is compressed to %v, not to %v", c.list, got, c.want)
		}
	}
}

func TestBytesAreCompressedAndDecompressed(t *testing.T) {
	for _, list := range packLists() {
		got := impl.PakPut(list)
		if want := ended(codesOf(list)...); !bytes.Equal(got, want) {
			t.Fatalf("%v is compressed to %v, not to %v", list, got, want)
		}
		wantUnpacked(t, got, list, true)
	}
}

func TestCompressedBytesWithoutTheLastOne(t *testing.T) {
	for _, list := range packLists() {
		got := impl.PakPut(list)
		for n := range got {
			wantUnpacked(t, got[:n], nil, false)
		}
	}
}

func TestEqualBytesBecomeFew(t *testing.T) {
	for _, b := range []byte{0, 1, 97, 128, 255} {
		for n := 60; n <= mostPacked; n++ {
			if got := impl.PakPut(bytes.Repeat([]byte{b}, n)); len(got) == 0 || 3*len(got) >= n {
				t.Errorf("%d bytes of %d are compressed to %d", n, b, len(got))
			}
		}
	}
}

func TestAsManyStringsAsPossible(t *testing.T) {
	ascending := make([]byte, mostPacked)
	for k := range ascending {
		ascending[k] = byte(k)
	}
	for _, list := range [][]byte{ascending, noPairTwice(mostPacked)} {
		seen := map[[2]byte]bool{}
		for k := range len(list) - 1 {
			pair := [2]byte{list[k], list[k+1]}
			if seen[pair] {
				t.Fatalf("%v is there twice", pair)
			}
			seen[pair] = true
		}
		got := impl.PakPut(list)
		if len(got) != (9*(mostPacked+1)+7)/8 {
			t.Errorf("%d bytes are compressed to %d", len(list), len(got))
		}
		wantUnpacked(t, got, list, true)
	}
}

// The last string that is entered is used, and so has the highest code that there can be.
func TestHighestCode(t *testing.T) {
	list := append(noPairTwice(mostPacked-3), 40, 40, 40)
	var codes []int
	for _, b := range list[:mostPacked-2] {
		codes = append(codes, int(b))
	}
	want := ended(append(codes, impl.PakFirst+mostPacked-3)...)
	if got := impl.PakPut(list); !bytes.Equal(got, want) {
		t.Errorf("%v is compressed to %v, not to %v", list, got, want)
	}
	wantUnpacked(t, want, list, true)
}

func TestTooManyBytesAreNotCompressed(t *testing.T) {
	for _, list := range longLists() {
		if got := impl.PakPut(list); got != nil {
			t.Errorf("%d bytes are compressed to %d", len(list), len(got))
		}
	}
}

// Promise 22: compressed bytes have one end.

// byItself are codes of which each but the first is the one that is entered just then; their strings have 1, 2, 3 .. bytes.
func byItself(n int) []int {
	codes := []int{97}
	for k := range n - 1 {
		codes = append(codes, impl.PakFirst+k)
	}
	return codes
}

func TestCodesThatAreEnteredByThemselves(t *testing.T) {
	for n := 1; n <= 19; n++ {
		wantUnpacked(t, ended(byItself(n)...), bytes.Repeat([]byte{97}, n*(n+1)/2), true)
	}
	for _, c := range []struct {
		codes []int
		text  string
	}{
		{[]int{97, 257}, "aaa"}, {[]int{97, 98, 258}, "abbb"}, {[]int{97, 98, 257, 259}, "abababa"}, {[]int{97, 257, 98, 259}, "aaabbb"},
		{[]int{97, 98, 258, 258}, "abbbbb"}, {[]int{97, 98, 258, 259}, "abbbbbb"}, {[]int{97, 98, 257, 259, 260}, "abababaabaa"}, {[]int{97, 98, 99, 257, 260}, "abcababa"},
	} {
		wantUnpacked(t, ended(c.codes...), []byte(c.text), true)
	}
}

// codeLists are lists of codes, the end code at any place or at none, and packed.
func codeLists() [][]byte {
	var lists [][]byte
	for _, codes := range words(5, 0, 97, 255, impl.PakEnd, impl.PakFirst, 258, 259, 260, 511) {
		lists = append(lists, nineBits(codes...), ended(codes...))
	}
	for seed := range 20000 {
		codes := make([]int, 1+seed%40)
		for k, b := range mixed(len(codes), 250, uint32(seed)) {
			codes[k] = int(b)
			if b%4 > 0 {
				codes[k] = impl.PakFirst + int(b)%(k+1) // some of them have no string yet, and some are entered just then
			}
		}
		lists = append(lists, ended(codes...))
	}
	return lists
}

func TestWhatIsAcceptedIsAsDescribed(t *testing.T) {
	accepted := 0
	for _, list := range codeLists() {
		want, ok := unpacked(list)
		if ok {
			accepted++
		}
		wantUnpacked(t, list, want, ok)
	}
	if accepted < 1000 {
		t.Errorf("only %d lists are accepted", accepted)
	}
}

func TestAnyBytesAreDecompressedAsDescribed(t *testing.T) {
	lists := words(5, byte(0), 1, 2, 4, 128, 255)
	for seed := range 2000 {
		lists = append(lists, mixed(seed%300, 256, uint32(seed)))
	}
	for _, list := range packLists()[:2000] {
		got := impl.PakPut(list)
		for at := range 8 * len(got) {
			other := slices.Clone(got)
			other[at/8] ^= 1 << (at % 8)
			lists = append(lists, other)
		}
	}
	for _, list := range lists {
		want, ok := unpacked(list)
		wantUnpacked(t, list, want, ok)
	}
}

func TestAcceptedBytesHaveOneEnd(t *testing.T) {
	lists := codeLists()
	for _, list := range packLists() {
		lists = append(lists, impl.PakPut(list))
	}
	for _, list := range lists {
		got, ok := impl.PakGet(list)
		if !ok {
			continue
		}
		if len(got) > mostPacked {
			t.Fatalf("%v is decompressed to %d bytes", list, len(got))
		}
		for _, more := range [][]byte{{0}, {1}, {128}, {255}, {0, 0}, {0, 1}, make([]byte, 9), make([]byte, 1000), list} {
			wantUnpacked(t, slices.Concat(list, more), nil, false)
		}
		for n := range list {
			wantUnpacked(t, list[:n], nil, false)
		}
		wantUnpacked(t, impl.PakPut(got), got, true)
	}
}

// Behind the end code there are 0 to 7 bits, depending on how many codes there are.
func TestBitsBehindTheEnd(t *testing.T) {
	for n := range 25 {
		list := ended(make([]int, n)...)
		wantUnpacked(t, list, make([]byte, n), true)
		for at := 9 * (n + 1); at < 8*len(list); at++ {
			other := slices.Clone(list)
			other[at/8] |= 1 << (at % 8)
			wantUnpacked(t, other, nil, false)
		}
	}
}

func TestCodesWithoutAString(t *testing.T) {
	for code := impl.PakFirst; code < impl.PakMost; code++ {
		wantUnpacked(t, ended(code), nil, false)
		wantUnpacked(t, ended(code, 97), nil, false)
		for n := 1; n < 60; n++ {
			// After n codes, the one that is entered just then is the n-th.
			_, ok := impl.PakGet(ended(append(make([]int, n), code)...))
			if want := code < impl.PakFirst+n; ok != want {
				t.Fatalf("code %d after %d others: accepted is %v", code, n, ok)
			}
		}
	}
}

func TestCodesWithoutAnEnd(t *testing.T) {
	wantUnpacked(t, nil, nil, false)
	wantUnpacked(t, []byte{}, nil, false)
	for n := range 250 {
		wantUnpacked(t, nineBits(make([]int, n)...), nil, false)
		wantUnpacked(t, make([]byte, n), nil, false)
		wantUnpacked(t, bytes.Repeat([]byte{255}, n), nil, false)
	}
	wantUnpacked(t, make([]byte, 1000000), nil, false)
}

func TestCodesBehindTheEnd(t *testing.T) {
	for n := range 20 {
		for _, code := range []int{0, 97, 255, impl.PakEnd, impl.PakFirst} {
			wantUnpacked(t, ended(append(make([]int, n), impl.PakEnd, code)...), nil, false)
			wantUnpacked(t, nineBits(append(make([]int, n), impl.PakEnd, code)...), nil, false)
		}
	}
}

func TestResultsOfTheLargestSize(t *testing.T) {
	for _, c := range []struct {
		codes []int
		size  int
	}{
		{make([]int, mostPacked-1), 199}, {make([]int, mostPacked), 200}, {make([]int, mostPacked+1), 201}, {make([]int, 255), 255}, {make([]int, 256), 256}, {make([]int, 2*impl.BytMost), 800},
		{byItself(19), 190}, {byItself(20), 210}, {byItself(100), 5050},
		{append(byItself(19), slices.Repeat([]int{98}, 10)...), 200}, {append(byItself(19), slices.Repeat([]int{98}, 11)...), 201},
		{append(byItself(19), 264), 199}, {append(byItself(19), 265), 200}, {append(byItself(19), 266), 201}, {append(byItself(19), 274), 209},
		{append(byItself(19), 264, 98), 200}, {append(byItself(19), 264, 257), 201},
		{append(slices.Repeat([]int{98}, 10), shifted(byItself(19), 10)...), 200}, {append(slices.Repeat([]int{98}, 11), shifted(byItself(19), 11)...), 201},
	} {
		got, ok := impl.PakGet(ended(c.codes...))
		if ok != (c.size <= mostPacked) || ok && len(got) != c.size || !ok && got != nil {
			t.Errorf("%d codes for %d bytes are decompressed to %d, %v", len(c.codes), c.size, len(got), ok)
		}
	}
}

// shifted returns codes as they are after so many others.
func shifted(codes []int, by int) []int {
	codes = slices.Clone(codes)
	for k, code := range codes {
		if code >= impl.PakFirst {
			codes[k] = code + by
		}
	}
	return codes
}

// Promise 67: compression is unique.

func TestDifferentBytesAreCompressedDifferently(t *testing.T) {
	lists := append(packLists(), words(11, byte(0), 1)...)
	seen := map[string][]byte{}
	for _, list := range lists {
		text := string(impl.PakPut(list))
		if before, ok := seen[text]; ok && !bytes.Equal(before, list) {
			t.Fatalf("%v and %v are compressed to %q", before, list, text)
		}
		if text != string(impl.PakPut(bytes.Clone(list))) {
			t.Fatalf("%v is compressed in two ways", list)
		}
		seen[text] = list
	}
}

func TestOneByteMakesADifference(t *testing.T) {
	for _, list := range [][]byte{filled(mostPacked, 1), make([]byte, mostPacked), noPairTwice(mostPacked), mixed(mostPacked, 2, 5), []byte("abababab")} {
		got := impl.PakPut(list)
		for k := range list {
			for _, by := range []byte{1, 2, 128, 255} {
				other := slices.Clone(list)
				other[k] += by
				if bytes.Equal(impl.PakPut(other), got) {
					t.Fatalf("byte %d of %v, changed by %d, makes no difference", k, list, by)
				}
			}
			if bytes.Equal(impl.PakPut(list[:k]), got) {
				t.Fatalf("%v is compressed as its first %d bytes", list, k)
			}
		}
	}
}

func TestCompressedAgainIsNotLonger(t *testing.T) {
	for _, list := range packLists() {
		first := impl.PakPut(list)
		got, ok := impl.PakGet(first)
		if again := impl.PakPut(got); !ok || len(again) > len(first) || !bytes.Equal(again, first) {
			t.Fatalf("%v is compressed to %v, and then to %v", list, first, again)
		}
	}
}

// Bytes that were not compressed by PakPut are accepted too, and may become shorter.
func TestOtherCodesOfTheSameBytes(t *testing.T) {
	for _, codes := range [][]int{{97, 97, 97, 97}, {97, 257, 97}, {97, 97, 257}} {
		wantUnpacked(t, ended(codes...), []byte("aaaa"), true)
	}
	for n := range mostPacked + 1 {
		list := mixed(n, 2, uint32(n))
		var codes []int
		for _, b := range list {
			codes = append(codes, int(b))
		}
		wantUnpacked(t, ended(codes...), list, true)
		if len(impl.PakPut(list)) > len(ended(codes...)) {
			t.Fatalf("%v is compressed to more than its bytes", list)
		}
	}
}

// Promise 105: compressed bytes can be compressed again.

func TestCompressedBytesAreCompressedAgain(t *testing.T) {
	longest := 0
	for _, list := range packLists() {
		once := impl.PakPut(list)
		twice := impl.PakPut(once)
		if len(once) > mostPacked {
			if twice != nil {
				t.Fatalf("%d bytes are compressed to %d", len(once), len(twice))
			}
			continue
		}
		longest = max(longest, len(once))
		back, ok := impl.PakGet(twice)
		if !ok || !bytes.Equal(back, once) {
			t.Fatalf("%v is decompressed to %v, %v", twice, back, ok)
		}
		wantUnpacked(t, back, list, true)
	}
	if longest < mostPacked-1 {
		t.Errorf("at most %d bytes are compressed again", longest)
	}
}

// 177 codes, the end code among them, are the most that fit into BytMost / 2 bytes.
func TestFewEnoughBytesToCompressTwice(t *testing.T) {
	for n := range mostPacked + 1 {
		list := noPairTwice(n)
		twice := impl.PakPut(impl.PakPut(list))
		if (n <= 176) != (twice != nil) {
			t.Fatalf("%d bytes, compressed twice, are %d", n, len(twice))
		}
		if once, ok := impl.PakGet(twice); ok {
			wantUnpacked(t, once, list, true)
		}
	}
}

// The general rules: arguments are not written to, and results are new memory.

func TestArgumentsOfPackingStay(t *testing.T) {
	for _, n := range []int{0, 1, 2, 60, mostPacked - 1, mostPacked, mostPacked + 1, 400} {
		list, memory := spare(n, 6)
		before := bytes.Clone(memory)
		got := impl.PakPut(list)
		whole := append(bytes.Clone(got), filled(50, 7)...)
		wholeBefore := bytes.Clone(whole)
		back, _ := impl.PakGet(whole[:len(got)])
		impl.PakGet(list)
		clear(got[:cap(got)])
		clear(back[:cap(back)])
		if !bytes.Equal(memory, before) || !bytes.Equal(whole, wholeBefore) {
			t.Errorf("an argument is written to, for %d bytes", n)
		}
	}
}

func TestResultsOfPackingAreNew(t *testing.T) {
	for _, list := range [][]byte{nil, {1}, []byte("aaaa"), filled(mostPacked, 2), make([]byte, mostPacked)} {
		first, other := impl.PakPut(list), impl.PakPut(list)
		clear(other[:cap(other)])
		one, _ := impl.PakGet(first)
		two, _ := impl.PakGet(first)
		clear(two[:cap(two)])
		if !bytes.Equal(first, ended(codesOf(list)...)) || !bytes.Equal(one, list) {
			t.Errorf("writing to a result of %v changes others", list)
		}
		wantUnpacked(t, first, list, true)
	}
}

func TestNothingIsKeptBetweenCalls(t *testing.T) {
	want := impl.PakPut([]byte("abab"))
	impl.PakGet(ended(97, 98, 257, 511))
	impl.PakGet(ended(byItself(30)...))
	impl.PakPut(filled(mostPacked, 1))
	impl.PakPut(make([]byte, mostPacked+1))
	if got := impl.PakPut([]byte("abab")); !bytes.Equal(got, want) {
		t.Errorf("abab is compressed to %v, and later to %v", want, got)
	}
	wantUnpacked(t, ended(impl.PakFirst), nil, false)
	wantUnpacked(t, want, []byte("abab"), true)
}
