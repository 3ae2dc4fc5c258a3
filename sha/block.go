package sha

import "gavel/api"

const (
	blockSize  = 64   // bytes that are mixed in at once
	lengthSize = 8    // bytes of the length, at the end of the last block
	endMark    = 0x80 // stands behind the last byte
	wordSize   = 4    // bytes of a word
	wordBits   = 32
	steps      = 64 // of a block
)

// roundWords are the constants of the steps: the first 32 binary digits behind the point of the cube roots of the first 64 primes.
var roundWords = [steps]uint32{
	0x428a2f98, 0x71374491, 0xb5c0fbcf, 0xe9b5dba5, 0x3956c25b, 0x59f111f1, 0x923f82a4, 0xab1c5ed5,
	0xd807aa98, 0x12835b01, 0x243185be, 0x550c7dc3, 0x72be5d74, 0x80deb1fe, 0x9bdc06a7, 0xc19bf174,
	0xe49b69c1, 0xefbe4786, 0x0fc19dc6, 0x240ca1cc, 0x2de92c6f, 0x4a7484aa, 0x5cb0a9dc, 0x76f988da,
	0x983e5152, 0xa831c66d, 0xb00327c8, 0xbf597fc7, 0xc6e00bf3, 0xd5a79147, 0x06ca6351, 0x14292967,
	0x27b70a85, 0x2e1b2138, 0x4d2c6dfc, 0x53380d13, 0x650a7354, 0x766a0abb, 0x81c2c92e, 0x92722c85,
	0xa2bfe8a1, 0xa81a664b, 0xc24b8b70, 0xc76c51a3, 0xd192e819, 0xd6990624, 0xf40e3585, 0x106aa070,
	0x19a4c116, 0x1e376c08, 0x2748774c, 0x34b0bcb5, 0x391c0cb3, 0x4ed8aa4a, 0x5b9cca4f, 0x682e6ff3,
	0x748f82ee, 0x78a5636f, 0x84c87814, 0x8cc70208, 0x90befffa, 0xa4506ceb, 0xbef9a3f7, 0xc67178f2,
}

// state is the eight words that a hash is made of at the end.
type state [8]uint32

// mixAll mixes in whole blocks, one behind the other.
func (s *state) mixAll(b []byte) {
	for ; len(b) >= blockSize; b = b[blockSize:] {
		s.mix(b[:blockSize])
	}
}

// mix mixes in one block. The names are those of the standard.
func (s *state) mix(block []byte) {
	w := schedule(block)
	a, b, c, d, e, f, g, h := s[0], s[1], s[2], s[3], s[4], s[5], s[6], s[7]
	for i := range steps {
		t1 := h + (rotate(e, 6) ^ rotate(e, 11) ^ rotate(e, 25)) + (e&f ^ ^e&g) + roundWords[i] + w[i]
		t2 := (rotate(a, 2) ^ rotate(a, 13) ^ rotate(a, 22)) + (a&b ^ a&c ^ b&c)
		a, b, c, d, e, f, g, h = t1+t2, a, b, c, d+t1, e, f, g
	}
	for i, x := range [...]uint32{a, b, c, d, e, f, g, h} {
		s[i] += x
	}
}

// schedule tells the words of a block's steps: its own first, then those that follow from them.
func schedule(block []byte) [steps]uint32 {
	var w [steps]uint32
	own := blockSize / wordSize
	for i := range own {
		w[i] = word(block[i*wordSize:])
	}
	for i := own; i < steps; i++ {
		near, far := w[i-2], w[i-15]
		near = rotate(near, 17) ^ rotate(near, 19) ^ near>>10
		far = rotate(far, 7) ^ rotate(far, 18) ^ far>>3
		w[i] = near + w[i-7] + far + w[i-16]
	}
	return w
}

// hash tells the words as bytes, the highest first.
func (s *state) hash() api.Hash {
	var h api.Hash
	for i := range h {
		h[i] = byte(s[i/wordSize] >> (wordBits - 8*(i%wordSize+1)))
	}
	return h
}

// ending tells the last blocks: what is left of the text, the mark, noughts, and the length of the whole in binary digits. It is one block, or two where the length does not fit behind the mark.
func ending(left []byte, length uint64) []byte {
	size := blockSize
	if len(left)+1+lengthSize > blockSize {
		size = 2 * blockSize
	}
	b := make([]byte, size)
	copy(b, left)
	b[len(left)] = endMark
	for i := range lengthSize {
		b[size-1-i] = byte(length << 3 >> (8 * i))
	}
	return b
}

// word tells the first four bytes of b as a number, the highest first.
func word(b []byte) uint32 {
	return uint32(b[0])<<24 | uint32(b[1])<<16 | uint32(b[2])<<8 | uint32(b[3])
}

// rotate moves the digits of x n down; those that fall out come in above.
func rotate(x uint32, n uint) uint32 {
	return x>>n | x<<(wordBits-n)
}
