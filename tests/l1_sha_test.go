package tests

import (
	"bytes"
	"crypto/hmac"
	"crypto/sha256"
	"strings"
	"testing"

	"loop.example/easel/impl"
)

// block is the length in bytes of a block of SHA-256.
const block = 64

// filled returns n bytes that differ from their neighbours and do not repeat block by block.
func filled(n int, seed int) []byte {
	list := make([]byte, n)
	for k := range list {
		list[k] = byte(seed + 7*k + k*k/5)
	}
	return list
}

// keyLengths are lengths around a block, a digest and the bound.
var keyLengths = []int{0, 1, 4, 31, 32, 33, 62, 63, 64, 65, 66, 127, 128, 129, 131, 499, 500}

// listLengths are lengths at which the padding needs one more block, and lengths around the bound, also with a block before them.
var listLengths = []int{0, 1, 3, 54, 55, 56, 57, 63, 64, 65, 119, 120, 128, 183, 184, 435, 436, 437, 438, 447, 448, 499, 500}

func wantHex(t *testing.T, what string, got []byte, want string) {
	t.Helper()
	if s := impl.HexText(got); s != want {
		t.Errorf("%s is %q, not %q", what, s, want)
	}
}

// Promise 12: a digest has 32 bytes.

func TestDigestsOfTheStandard(t *testing.T) {
	wantHex(t, "the digest of nil", impl.ShaSum(nil), "e3b0c44298fc1c149afbf4c8996fb92427ae41e4649b934ca495991b7852b855")
	wantHex(t, "the digest of no bytes", impl.ShaSum([]byte{}), "e3b0c44298fc1c149afbf4c8996fb92427ae41e4649b934ca495991b7852b855")
	wantHex(t, "the digest of abc", impl.ShaSum([]byte("abc")), "ba7816bf8f01cfea414140de5dae2223b00361a396177a9cb410ff61f20015ad")
	wantHex(t, "the digest of 56 bytes", impl.ShaSum([]byte("abcdbcdecdefdefgefghfghighijhijkijkljklmklmnlmnomnopnopq")),
		"248d6a61d20638b8e5c026930c3e6039a33ce45964ff2167f6ecedd419db06c1")
	wantHex(t, "the digest of 112 bytes", impl.ShaSum([]byte("abcdefghbcdefghicdefghijdefghijkefghijklfghijklmghijklmnhijklmnoijklmnopjklmnopqklmnopqrlmnopqrsmnopqrstnopqrstu")),
		"cf5b16a778af8380036ce59e7b0492370b249b11e8f07a51afac45037afee9d1")
}

func TestDigestOfEachLength(t *testing.T) {
	for n := 0; n <= impl.ShaMost; n++ {
		for _, list := range [][]byte{filled(n, n), make([]byte, n), bytes.Repeat([]byte{255}, n)} {
			got := impl.ShaSum(list)
			want := sha256.Sum256(list)
			if len(got) != 32 || !bytes.Equal(got, want[:]) {
				t.Fatalf("the digest of %x is %x, not %x", list, got, want)
			}
		}
	}
}

func TestDigestOfTooManyBytes(t *testing.T) {
	if got := impl.ShaSum(filled(impl.ShaMost, 1)); len(got) != 32 {
		t.Errorf("the digest of ShaMost bytes is %x", got)
	}
	for _, n := range []int{impl.ShaMost + 1, impl.ShaMost + block, 100000} {
		if got := impl.ShaSum(filled(n, 1)); got != nil {
			t.Errorf("the digest of %d bytes is %x, not nil", n, got)
		}
	}
}

func TestDigestIsTheSameEachTime(t *testing.T) {
	for _, n := range listLengths {
		list := filled(n, 3)
		first := impl.ShaSum(list)
		kept := bytes.Clone(first)
		impl.ShaSum(filled(n+1, 9))
		impl.ShaMac(filled(n, 9), list)
		second := impl.ShaSum(list)
		if !bytes.Equal(second, kept) {
			t.Errorf("the second digest of %d bytes is %x, not %x", n, second, kept)
		}
		clear(second[:cap(second)])
		if !bytes.Equal(first, kept) {
			t.Errorf("two digests of %d bytes share memory", n)
		}
		if !bytes.Equal(impl.ShaSum(list), kept) {
			t.Errorf("writing to a digest of %d bytes changes the next one", n)
		}
	}
}

// Promise 13: an HMAC consists of two digests.

func TestMacsOfTheStandard(t *testing.T) {
	aa := bytes.Repeat([]byte{0xaa}, 131)
	cases := []struct {
		key, list, want string
	}{
		{strings.Repeat("\x0b", 20), "Hi There", "b0344c61d8db38535ca8afceaf0bf12b881dc200c9833da726e9376c2e32cff7"},
		{"Jefe", "what do ya want for nothing?", "5bdcc146bf60754e6a042426089575c75a003f089d2739839dec58b964ec3843"},
		{strings.Repeat("\xaa", 20), strings.Repeat("\xdd", 50), "773ea91e36800e46854db8ebd09181a72959098b3ef8c122d9635514ced565fe"},
		{string(aa), "Test Using Larger Than Block-Size Key - Hash Key First", "60e431591ee0b67f0d8a26aacbf5b77f8e0bc6213728c5140546040f0ee37f54"},
		{string(aa), "This is a test using a larger than block-size key and a larger than block-size data. The key needs to be hashed before being used by the HMAC algorithm.",
			"9b09ffa71b942fcb27635fbcd5b0e944bfdc63644f0713938a7f51535c3a35e2"},
		{"", "", "b613679a0814d9ec772f95d778c35fc5ff1697c493715653c6c712144292c5ad"},
	}
	for _, c := range cases {
		wantHex(t, "the HMAC of "+c.list, impl.ShaMac([]byte(c.key), []byte(c.list)), c.want)
	}
}

// macOfDigests computes an HMAC from digests, as the promise states it.
func macOfDigests(sum func([]byte) []byte, key []byte, list []byte) []byte {
	if len(key) > block {
		key = sum(key)
	}
	padded := append(bytes.Clone(key), make([]byte, block-len(key))...)
	inner, outer := make([]byte, block), make([]byte, block)
	for k, b := range padded {
		inner[k], outer[k] = b^54, b^92
	}
	return sum(append(outer, sum(append(inner, list...))...))
}

func TestMacIsTwoDigests(t *testing.T) {
	for _, k := range keyLengths {
		for _, n := range listLengths {
			if block+n > impl.ShaMost {
				continue
			}
			key, list := filled(k, 5), filled(n, 11)
			want := macOfDigests(impl.ShaSum, key, list)
			if got := impl.ShaMac(key, list); len(got) != 32 || !bytes.Equal(got, want) {
				t.Errorf("the HMAC of %d bytes under %d is %x, not %x", n, k, got, want)
			}
		}
	}
}

// The masked key and the list are together longer than ShaMost here, so ShaSum cannot state what is wanted.
func TestMacOfEachLength(t *testing.T) {
	for _, k := range keyLengths {
		for n := 0; n <= impl.ShaMost; n++ {
			key, list := filled(k, 5), filled(n, 11)
			mac := hmac.New(sha256.New, key)
			mac.Write(list)
			want := mac.Sum(nil)
			if got := impl.ShaMac(key, list); !bytes.Equal(got, want) {
				t.Fatalf("the HMAC of %d bytes under %d is %x, not %x", n, k, got, want)
			}
		}
	}
	for k := 0; k <= impl.ShaMost; k++ {
		key := filled(k, 13)
		mac := hmac.New(sha256.New, key)
		mac.Write([]byte("abc"))
		if want, got := mac.Sum(nil), impl.ShaMac(key, []byte("abc")); !bytes.Equal(got, want) {
			t.Fatalf("the HMAC under %d bytes is %x, not %x", k, got, want)
		}
	}
}

func TestMacOfTooManyBytes(t *testing.T) {
	most := impl.ShaMost
	if got := impl.ShaMac(filled(most, 1), filled(most, 2)); len(got) != 32 {
		t.Errorf("the HMAC of ShaMost bytes under ShaMost is %x", got)
	}
	for _, c := range [][2]int{{most + 1, 0}, {most + 1, most}, {0, most + 1}, {most, most + 1}, {block, most + 1}, {most + 1, most + 1}, {100000, 1}, {1, 100000}} {
		if got := impl.ShaMac(filled(c[0], 1), filled(c[1], 2)); got != nil {
			t.Errorf("the HMAC of %d bytes under %d is %x, not nil", c[1], c[0], got)
		}
	}
}

// Promise 14: hexadecimal text is reversible.

func hexLists() [][]byte {
	lists := [][]byte{nil, {}, {0}, {0, 0}, {0, 1}, {1, 0}, {16}, {255}, {171, 205}, filled(impl.ShaMost+1, 2), filled(3000, 4)}
	all := make([]byte, 256)
	for k := range all {
		all[k] = byte(k)
		lists = append(lists, []byte{byte(k)})
	}
	return append(lists, all)
}

func TestHexOfKnownBytes(t *testing.T) {
	cases := []struct {
		list []byte
		want string
	}{
		{nil, ""}, {[]byte{0}, "00"}, {[]byte{10, 255}, "0aff"}, {[]byte{0x1f, 0xf1, 0x09, 0x90}, "1ff10990"}, {[]byte("abc"), "616263"},
	}
	for _, c := range cases {
		wantHex(t, "the text", c.list, c.want)
	}
}

func TestHexIsReadBack(t *testing.T) {
	for _, list := range hexLists() {
		text := impl.HexText(list)
		if len(text) != 2*len(list) {
			t.Errorf("the text of %d bytes has %d characters", len(list), len(text))
		}
		if got, ok := impl.HexRead(text); !ok || !bytes.Equal(got, list) {
			t.Errorf("%q is read as %x, %v", text, got, ok)
		}
	}
}

func TestHexReadsTextOnly(t *testing.T) {
	const digits = "0123456789abcdef"
	for high := range 256 {
		for low := range 256 {
			text := string([]byte{byte(high), byte(low)})
			want := strings.IndexByte(digits, byte(high)) >= 0 && strings.IndexByte(digits, byte(low)) >= 0
			for _, s := range []string{text, "00" + text, text + "ff"} {
				got, ok := impl.HexRead(s)
				if ok != want || ok && impl.HexText(got) != s || !ok && got != nil {
					t.Fatalf("%q is read as %x, %v", s, got, ok)
				}
			}
		}
	}
}

func TestHexReadOfInvalidText(t *testing.T) {
	for _, s := range []string{
		"0", "a", "abc", "00000", strings.Repeat("0", 1001), "g", " ",
		"0A", "A0", "FF", "0aFf", "ABCDEF",
		"0g", "g0", "0x00", "/0", "0:", "`0", "0@", "00 ", " 00", "0 0", "00\n", "-1", "+1", "\x00\x00", "0\x00", "é", "٣", "００", "\xff\xff",
	} {
		if got, ok := impl.HexRead(s); ok || got != nil {
			t.Errorf("%q is read as %x, %v", s, got, ok)
		}
	}
}

// Promise 62: different bytes have different texts.

func TestDifferentBytesHaveDifferentTexts(t *testing.T) {
	lists := hexLists()
	for n := range 20 {
		lists = append(lists, make([]byte, n), filled(n, 1), append([]byte{0}, filled(n, 1)...), append(filled(n, 1), 0))
	}
	for _, one := range lists {
		for _, other := range lists {
			same := impl.HexText(one) == impl.HexText(other)
			if same != bytes.Equal(one, other) {
				t.Fatalf("%x and %x: same text is %v", one, other, same)
			}
		}
	}
}

// Promise 63: keys are padded with zeros.

func TestShortKeysArePaddedWithZeros(t *testing.T) {
	for k := range block {
		for _, n := range listLengths {
			key, list := filled(k, 21), filled(n, 8)
			got, want := impl.ShaMac(append(bytes.Clone(key), 0), list), impl.ShaMac(key, list)
			if len(want) != 32 || !bytes.Equal(got, want) {
				t.Errorf("with a zero byte after a key of %d bytes the HMAC is %x, not %x", k, got, want)
			}
		}
	}
}

func TestKeyOfABlockIsNotPadded(t *testing.T) {
	key, list := filled(block, 21), filled(10, 8)
	if bytes.Equal(impl.ShaMac(append(bytes.Clone(key), 0), list), impl.ShaMac(key, list)) {
		t.Error("a zero byte after a key of a block makes no difference")
	}
	if bytes.Equal(impl.ShaMac(impl.ShaSum(key), list), impl.ShaMac(key, list)) {
		t.Error("a key of exactly a block is replaced by its digest")
	}
}

func TestLongKeysAreDigested(t *testing.T) {
	for k := block + 1; k <= impl.ShaMost; k++ {
		key, list := filled(k, 21), filled(k%70, 8)
		got, want := impl.ShaMac(key, list), impl.ShaMac(impl.ShaSum(key), list)
		if len(got) != 32 || !bytes.Equal(got, want) {
			t.Errorf("the HMAC under %d bytes is %x, under their digest %x", k, got, want)
		}
	}
}

// The general rules: arguments are not written to, and results are new memory.

// spare returns n bytes with spare capacity, and all of the memory behind them.
func spare(n int, seed int) ([]byte, []byte) {
	whole := filled(n+2*block, seed)
	return whole[:n], whole
}

func TestArgumentsOfHashesStay(t *testing.T) {
	for _, k := range append(keyLengths, impl.ShaMost+1) {
		for _, n := range append(listLengths, impl.ShaMost+1) {
			key, keyMemory := spare(k, 1)
			list, listMemory := spare(n, 2)
			keyBefore, listBefore := bytes.Clone(keyMemory), bytes.Clone(listMemory)
			for _, got := range [][]byte{impl.ShaSum(key), impl.ShaSum(list), impl.ShaMac(key, list), impl.ShaMac(list, list)} {
				clear(got[:cap(got)])
			}
			impl.HexText(list)
			if !bytes.Equal(keyMemory, keyBefore) || !bytes.Equal(listMemory, listBefore) {
				t.Fatalf("an argument is written to, for a key of %d bytes and a list of %d", k, n)
			}
		}
	}
}

func TestResultsOfHexReadAreNew(t *testing.T) {
	first, _ := impl.HexRead("0aff")
	second, _ := impl.HexRead("0aff")
	clear(second[:cap(second)])
	if third, ok := impl.HexRead("0aff"); !ok || !bytes.Equal(first, []byte{10, 255}) || !bytes.Equal(third, first) {
		t.Errorf("writing to a result changes others: %x, %x", first, third)
	}
}
