package impl

import (
	"math/bits"
	"strings"
)

// ShaMost is how many bytes are summed at most.
const ShaMost = 500

const (
	shaBlock  = 64 // bytes of a block
	shaSize   = 32 // bytes of a digest
	shaLength = 8  // bytes at the end of the last block that hold the length
	macInner  = 54
	macOuter  = 92
	hexDigits = "0123456789abcdef"
)

// shaFirst and shaRounds are the first 32 bits of the fractions of the square roots of the first 8 primes and of the cube roots of the first 64; they are written out so that no call computes them again.
var shaFirst = [8]uint32{
	0x6a09e667, 0xbb67ae85, 0x3c6ef372, 0xa54ff53a, 0x510e527f, 0x9b05688c, 0x1f83d9ab, 0x5be0cd19,
}

var shaRounds = [64]uint32{
	0x428a2f98, 0x71374491, 0xb5c0fbcf, 0xe9b5dba5, 0x3956c25b, 0x59f111f1, 0x923f82a4, 0xab1c5ed5,
	0xd807aa98, 0x12835b01, 0x243185be, 0x550c7dc3, 0x72be5d74, 0x80deb1fe, 0x9bdc06a7, 0xc19bf174,
	0xe49b69c1, 0xefbe4786, 0x0fc19dc6, 0x240ca1cc, 0x2de92c6f, 0x4a7484aa, 0x5cb0a9dc, 0x76f988da,
	0x983e5152, 0xa831c66d, 0xb00327c8, 0xbf597fc7, 0xc6e00bf3, 0xd5a79147, 0x06ca6351, 0x14292967,
	0x27b70a85, 0x2e1b2138, 0x4d2c6dfc, 0x53380d13, 0x650a7354, 0x766a0abb, 0x81c2c92e, 0x92722c85,
	0xa2bfe8a1, 0xa81a664b, 0xc24b8b70, 0xc76c51a3, 0xd192e819, 0xd6990624, 0xf40e3585, 0x106aa070,
	0x19a4c116, 0x1e376c08, 0x2748774c, 0x34b0bcb5, 0x391c0cb3, 0x4ed8aa4a, 0x5b9cca4f, 0x682e6ff3,
	0x748f82ee, 0x78a5636f, 0x84c87814, 0x8cc70208, 0x90befffa, 0xa4506ceb, 0xbef9a3f7, 0xc67178f2,
}

// shaHash is a digest under way. The bytes of block from size%shaBlock on are those of the block before and have no meaning.
type shaHash struct {
	words [8]uint32
	block [shaBlock]byte
	size  uint64
}

func newShaHash() *shaHash {
	return &shaHash{words: shaFirst}
}

// write takes any number of bytes: ShaMost does not apply here, because ShaMac hashes a block before a list that may already have ShaMost bytes.
func (h *shaHash) write(list []byte) {
	for _, b := range list {
		h.writeOne(b)
	}
}

func (h *shaHash) writeOne(b byte) {
	h.block[h.size%shaBlock] = b
	h.size++
	if h.size%shaBlock == 0 {
		h.mixBlock()
	}
}

// sum pads what was written and returns the digest; the hash cannot be written to afterwards.
func (h *shaHash) sum() []byte {
	length := 8 * h.size
	h.writeOne(0x80)
	for h.size%shaBlock != shaBlock-shaLength {
		h.writeOne(0)
	}
	for shift := 56; shift >= 0; shift -= 8 {
		h.writeOne(byte(length >> shift))
	}
	digest := make([]byte, 0, shaSize)
	for _, word := range h.words {
		digest = append(digest, byte(word>>24), byte(word>>16), byte(word>>8), byte(word))
	}
	return digest
}

func (h *shaHash) mixBlock() {
	mixed := h.words
	for k, word := range shaSchedule(h.block) {
		mixed = shaRound(mixed, shaRounds[k]+word)
	}
	for k, word := range mixed {
		h.words[k] += word
	}
}

// shaSchedule stretches a block to one word for each round.
func shaSchedule(block [shaBlock]byte) [64]uint32 {
	var plan [64]uint32
	for k := range 16 {
		plan[k] = uint32(block[4*k])<<24 | uint32(block[4*k+1])<<16 | uint32(block[4*k+2])<<8 | uint32(block[4*k+3])
	}
	for k := 16; k < len(plan); k++ {
		early, late := plan[k-15], plan[k-2]
		small := rotateRight(early, 7) ^ rotateRight(early, 18) ^ early>>3
		large := rotateRight(late, 17) ^ rotateRight(late, 19) ^ late>>10
		plan[k] = plan[k-16] + small + plan[k-7] + large
	}
	return plan
}

// shaRound is one round; the letters are those of FIPS 180-4.
func shaRound(v [8]uint32, add uint32) [8]uint32 {
	a, b, c, d, e, f, g, h := v[0], v[1], v[2], v[3], v[4], v[5], v[6], v[7]
	choice := (e & f) ^ (^e & g)
	majority := (a & b) ^ (a & c) ^ (b & c)
	t1 := h + (rotateRight(e, 6) ^ rotateRight(e, 11) ^ rotateRight(e, 25)) + choice + add
	t2 := (rotateRight(a, 2) ^ rotateRight(a, 13) ^ rotateRight(a, 22)) + majority
	return [8]uint32{t1 + t2, a, b, c, d + t1, e, f, g}
}

func rotateRight(word uint32, by int) uint32 {
	return bits.RotateLeft32(word, -by)
}

// ShaSum is the SHA-256 sum of bytes.
func ShaSum(list []byte) []byte {
	if len(list) > ShaMost {
		return nil
	}
	h := newShaHash()
	h.write(list)
	return h.sum()
}

// ShaMac is the HMAC of bytes, by a key, with that sum.
func ShaMac(key []byte, list []byte) []byte {
	if len(key) > ShaMost || len(list) > ShaMost {
		return nil
	}
	padded := macKey(key)
	return macSum(padded, macOuter, macSum(padded, macInner, list))
}

// macKey makes a key exactly one block long.
func macKey(key []byte) [shaBlock]byte {
	var padded [shaBlock]byte
	if len(key) > shaBlock {
		key = ShaSum(key)
	}
	copy(padded[:], key)
	return padded
}

// macSum is the digest of a masked key and a list.
func macSum(key [shaBlock]byte, mask byte, list []byte) []byte {
	h := newShaHash()
	for _, b := range key {
		h.writeOne(b ^ mask)
	}
	h.write(list)
	return h.sum()
}

// HexText writes bytes, two signs each.
func HexText(list []byte) string {
	text := make([]byte, 0, 2*len(list))
	for _, b := range list {
		text = append(text, hexDigits[b>>4], hexDigits[b&15])
	}
	return string(text)
}

// HexRead reads bytes, two signs each.
func HexRead(s string) ([]byte, bool) {
	if len(s)%2 != 0 {
		return nil, false
	}
	list := make([]byte, 0, len(s)/2)
	for k := 0; k < len(s); k += 2 {
		high := strings.IndexByte(hexDigits, s[k])
		low := strings.IndexByte(hexDigits, s[k+1])
		if high < 0 || low < 0 {
			return nil, false
		}
		list = append(list, byte(16*high+low))
	}
	return list, true
}
