// Package sha makes SHA-256 digests of bytes (FIPS 180-4).
package sha

import (
	"math/bits"

	"murmuration/api"
)

const blockSize = 64

// roundWords is K: the first bits behind the point of the cube roots of the first sixty-four primes.
var roundWords = [64]uint32{
	0x428a2f98, 0x71374491, 0xb5c0fbcf, 0xe9b5dba5, 0x3956c25b, 0x59f111f1, 0x923f82a4, 0xab1c5ed5,
	0xd807aa98, 0x12835b01, 0x243185be, 0x550c7dc3, 0x72be5d74, 0x80deb1fe, 0x9bdc06a7, 0xc19bf174,
	0xe49b69c1, 0xefbe4786, 0x0fc19dc6, 0x240ca1cc, 0x2de92c6f, 0x4a7484aa, 0x5cb0a9dc, 0x76f988da,
	0x983e5152, 0xa831c66d, 0xb00327c8, 0xbf597fc7, 0xc6e00bf3, 0xd5a79147, 0x06ca6351, 0x14292967,
	0x27b70a85, 0x2e1b2138, 0x4d2c6dfc, 0x53380d13, 0x650a7354, 0x766a0abb, 0x81c2c92e, 0x92722c85,
	0xa2bfe8a1, 0xa81a664b, 0xc24b8b70, 0xc76c51a3, 0xd192e819, 0xd6990624, 0xf40e3585, 0x106aa070,
	0x19a4c116, 0x1e376c08, 0x2748774c, 0x34b0bcb5, 0x391c0cb3, 0x4ed8aa4a, 0x5b9cca4f, 0x682e6ff3,
	0x748f82ee, 0x78a5636f, 0x84c87814, 0x8cc70208, 0x90befffa, 0xa4506ceb, 0xbef9a3f7, 0xc67178f2,
}

// firstWords is what the eight words are ahead of the first block.
var firstWords = [8]uint32{
	0x6a09e667, 0xbb67ae85, 0x3c6ef372, 0xa54ff53a, 0x510e527f, 0x9b05688c, 0x1f83d9ab, 0x5be0cd19,
}

// hasher takes bytes in piece by piece, so that parts need not be put together first.
type hasher struct {
	words [8]uint32
	rest  [blockSize]byte // bytes of a block that is not whole yet
	held  int             // how many they are
	taken uint64          // how many bytes came in all
}

// Sum is the digest of b.
func Sum(b []byte) api.Digest {
	h := hasher{words: firstWords}
	h.take(b)
	return h.digest()
}

// Parts is the digest of tag and of all parts, one behind the other.
func Parts(tag byte, parts ...[]byte) api.Digest {
	h := hasher{words: firstWords}
	h.take([]byte{tag})
	for _, part := range parts {
		h.take(part)
	}
	return h.digest()
}

func (h *hasher) take(b []byte) {
	h.taken += uint64(len(b))
	if h.held > 0 {
		n := copy(h.rest[h.held:], b)
		h.held += n
		b = b[n:]
		if h.held < blockSize {
			return
		}
		h.block(h.rest[:])
	}
	for len(b) >= blockSize {
		h.block(b[:blockSize])
		b = b[blockSize:]
	}
	h.held = copy(h.rest[:], b)
}

// digest ends the text with its padding, and tells the words.
func (h *hasher) digest() api.Digest {
	length := h.taken * 8
	noughts := (2*blockSize - 1 - 8 - h.held) % blockSize
	padding := make([]byte, 1+noughts, 1+noughts+8)
	padding[0] = 0x80
	for shift := 56; shift >= 0; shift -= 8 {
		padding = append(padding, byte(length>>shift))
	}
	h.take(padding)
	var d api.Digest
	for i, w := range h.words {
		d[4*i], d[4*i+1], d[4*i+2], d[4*i+3] = byte(w>>24), byte(w>>16), byte(w>>8), byte(w)
	}
	return d
}

// schedule makes the sixty-four words W of a block.
func schedule(block []byte) [64]uint32 {
	var w [64]uint32
	for t := range 16 {
		w[t] = uint32(block[4*t])<<24 | uint32(block[4*t+1])<<16 | uint32(block[4*t+2])<<8 | uint32(block[4*t+3])
	}
	for t := 16; t < 64; t++ {
		x, y := w[t-15], w[t-2]
		low := right(x, 7) ^ right(x, 18) ^ x>>3
		high := right(y, 17) ^ right(y, 19) ^ y>>10
		w[t] = w[t-16] + low + w[t-7] + high
	}
	return w
}

func (h *hasher) block(block []byte) {
	w := schedule(block)
	a, b, c, d := h.words[0], h.words[1], h.words[2], h.words[3]
	e, f, g, last := h.words[4], h.words[5], h.words[6], h.words[7]
	for t := range 64 {
		t1 := last + (right(e, 6) ^ right(e, 11) ^ right(e, 25)) + (e&f ^ ^e&g) + roundWords[t] + w[t]
		t2 := (right(a, 2) ^ right(a, 13) ^ right(a, 22)) + (a&b ^ a&c ^ b&c)
		last, g, f, e = g, f, e, d+t1
		d, c, b, a = c, b, a, t1+t2
	}
	for i, x := range [8]uint32{a, b, c, d, e, f, g, last} {
		h.words[i] += x
	}
}

func right(x uint32, n int) uint32 {
	return bits.RotateLeft32(x, -n)
}
