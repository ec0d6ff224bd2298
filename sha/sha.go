// Package sha is layer 1: SHA-256 (see ../shared/doc/01-sha.md).
package sha

import "math/bits"

const (
	blockSize  = 64
	lengthSize = 8
	sumSize    = 32
	wordSize   = 4
	digits     = "0123456789abcdef"
)

// start holds the first 32 bits behind the point of the square roots of the first eight primes.
var start = [8]uint32{
	0x6a09e667, 0xbb67ae85, 0x3c6ef372, 0xa54ff53a,
	0x510e527f, 0x9b05688c, 0x1f83d9ab, 0x5be0cd19,
}

// rounds holds the first 32 bits behind the point of the cube roots of the first sixty-four primes.
var rounds = [64]uint32{
	0x428a2f98, 0x71374491, 0xb5c0fbcf, 0xe9b5dba5, 0x3956c25b, 0x59f111f1, 0x923f82a4, 0xab1c5ed5,
	0xd807aa98, 0x12835b01, 0x243185be, 0x550c7dc3, 0x72be5d74, 0x80deb1fe, 0x9bdc06a7, 0xc19bf174,
	0xe49b69c1, 0xefbe4786, 0x0fc19dc6, 0x240ca1cc, 0x2de92c6f, 0x4a7484aa, 0x5cb0a9dc, 0x76f988da,
	0x983e5152, 0xa831c66d, 0xb00327c8, 0xbf597fc7, 0xc6e00bf3, 0xd5a79147, 0x06ca6351, 0x14292967,
	0x27b70a85, 0x2e1b2138, 0x4d2c6dfc, 0x53380d13, 0x650a7354, 0x766a0abb, 0x81c2c92e, 0x92722c85,
	0xa2bfe8a1, 0xa81a664b, 0xc24b8b70, 0xc76c51a3, 0xd192e819, 0xd6990624, 0xf40e3585, 0x106aa070,
	0x19a4c116, 0x1e376c08, 0x2748774c, 0x34b0bcb5, 0x391c0cb3, 0x4ed8aa4a, 0x5b9cca4f, 0x682e6ff3,
	0x748f82ee, 0x78a5636f, 0x84c87814, 0x8cc70208, 0x90befffa, 0xa4506ceb, 0xbef9a3f7, 0xc67178f2,
}

// Sum answers the SHA-256 sum of b: 32 bytes.
func Sum(b []byte) []byte {
	whole := len(b) - len(b)%blockSize
	h := mixAll(start, b[:whole])
	// Only the rest is copied to be padded, so that a great b costs no second one.
	h = mixAll(h, padded(b[whole:], len(b)))
	return bytesOf(h)
}

// Hex answers two hexadecimal digits, in small letters, of each byte of b.
func Hex(b []byte) string {
	out := make([]byte, 0, 2*len(b))
	for _, x := range b {
		out = append(out, digits[x>>4], digits[x&15])
	}
	return string(out)
}

// Head answers the first 62 bits of the sum of b: a key of the ring.
func Head(b []byte) int {
	var n uint64
	for _, x := range Sum(b)[:8] {
		n = n<<8 | uint64(x)
	}
	return int(n >> 2)
}

// padded answers rest, what is left of size bytes behind their whole blocks, with the padding: one block or two.
func padded(rest []byte, size int) []byte {
	room := blockSize
	if len(rest)+1+lengthSize > blockSize {
		room = 2 * blockSize
	}
	out := make([]byte, room)
	copy(out, rest)
	out[len(rest)] = 0x80
	length := uint64(size) * 8
	for i := range lengthSize {
		out[room-1-i] = byte(length >> (8 * i))
	}
	return out
}

// mixAll mixes b, whole blocks, into h, one block behind the other.
func mixAll(h [8]uint32, b []byte) [8]uint32 {
	for at := 0; at < len(b); at += blockSize {
		h = mix(h, words(b[at:at+blockSize]))
	}
	return h
}

// words makes the sixty-four words of a block.
func words(block []byte) [64]uint32 {
	var w [64]uint32
	for i := range blockSize / wordSize {
		for _, x := range block[wordSize*i : wordSize*(i+1)] {
			w[i] = w[i]<<8 | uint32(x)
		}
	}
	for i := blockSize / wordSize; i < len(w); i++ {
		s0 := turned(w[i-15], 7) ^ turned(w[i-15], 18) ^ w[i-15]>>3
		s1 := turned(w[i-2], 17) ^ turned(w[i-2], 19) ^ w[i-2]>>10
		w[i] = w[i-16] + s0 + w[i-7] + s1
	}
	return w
}

// mix mixes the words of one block into h.
func mix(h [8]uint32, w [64]uint32) [8]uint32 {
	a, b, c, d, e, f, g, last := h[0], h[1], h[2], h[3], h[4], h[5], h[6], h[7]
	for i := range len(w) {
		t1 := last + (turned(e, 6) ^ turned(e, 11) ^ turned(e, 25)) + (e&f ^ ^e&g) + rounds[i] + w[i]
		t2 := (turned(a, 2) ^ turned(a, 13) ^ turned(a, 22)) + (a&b ^ a&c ^ b&c)
		a, b, c, d, e, f, g, last = t1+t2, a, b, c, d+t1, e, f, g
	}
	return [8]uint32{h[0] + a, h[1] + b, h[2] + c, h[3] + d, h[4] + e, h[5] + f, h[6] + g, h[7] + last}
}

// turned answers x turned right by n bits.
func turned(x uint32, n int) uint32 {
	return bits.RotateLeft32(x, -n)
}

// bytesOf lays the words of h out, the greatest byte first.
func bytesOf(h [8]uint32) []byte {
	out := make([]byte, 0, sumSize)
	for _, x := range h {
		out = append(out, byte(x>>24), byte(x>>16), byte(x>>8), byte(x))
	}
	return out
}
