package seal

import (
	"math/bits"
	"strings"
)

// SHA-256, by the words and the letters of FIPS 180-4.
const (
	block       = 64 // bytes that are mixed in at a time
	rounds      = 64 // of a block
	wordBytes   = 4
	blockWords  = block / wordBytes
	lengthBytes = 8 // of the number that ends a message
)

// cubeRoots has the first 32 bits behind the point of the cube roots of the first 64 primes.
var cubeRoots = [rounds]uint32{
	0x428a2f98, 0x71374491, 0xb5c0fbcf, 0xe9b5dba5, 0x3956c25b, 0x59f111f1, 0x923f82a4, 0xab1c5ed5,
	0xd807aa98, 0x12835b01, 0x243185be, 0x550c7dc3, 0x72be5d74, 0x80deb1fe, 0x9bdc06a7, 0xc19bf174,
	0xe49b69c1, 0xefbe4786, 0x0fc19dc6, 0x240ca1cc, 0x2de92c6f, 0x4a7484aa, 0x5cb0a9dc, 0x76f988da,
	0x983e5152, 0xa831c66d, 0xb00327c8, 0xbf597fc7, 0xc6e00bf3, 0xd5a79147, 0x06ca6351, 0x14292967,
	0x27b70a85, 0x2e1b2138, 0x4d2c6dfc, 0x53380d13, 0x650a7354, 0x766a0abb, 0x81c2c92e, 0x92722c85,
	0xa2bfe8a1, 0xa81a664b, 0xc24b8b70, 0xc76c51a3, 0xd192e819, 0xd6990624, 0xf40e3585, 0x106aa070,
	0x19a4c116, 0x1e376c08, 0x2748774c, 0x34b0bcb5, 0x391c0cb3, 0x4ed8aa4a, 0x5b9cca4f, 0x682e6ff3,
	0x748f82ee, 0x78a5636f, 0x84c87814, 0x8cc70208, 0x90befffa, 0xa4506ceb, 0xbef9a3f7, 0xc67178f2,
}

// message is what is hashed, on its way in.
type message struct {
	state [8]uint32
	part  [block]byte // its first size%block bytes are not mixed in yet
	size  int         // bytes up to now
}

// begin starts from the first 32 bits behind the point of the square roots of the first 8 primes.
func begin() *message {
	return &message{state: [8]uint32{
		0x6a09e667, 0xbb67ae85, 0x3c6ef372, 0xa54ff53a, 0x510e527f, 0x9b05688c, 0x1f83d9ab, 0x5be0cd19,
	}}
}

// hash tells the hash of texts, one behind the other.
func hash(l ...string) string {
	m := begin()
	for _, s := range l {
		m.take(s)
	}
	return m.end()
}

func (m *message) take(s string) {
	for s != "" {
		n := copy(m.part[m.size%block:], s)
		s = s[n:]
		m.size += n
		if m.size%block == 0 {
			m.mix()
		}
	}
}

// end is called once, as the last: what it lays behind the message becomes a part of it.
func (m *message) end() string {
	m.take(ending(m.size))
	var b []byte
	for _, word := range m.state {
		b = lay(b, uint64(word), wordBytes)
	}
	return string(b)
}

// ending tells what stands behind a message of so many bytes, up to the end of a block: a one, zeros, its length in bits.
func ending(size int) string {
	zeros := (2*block - 1 - lengthBytes - size%block) % block
	return "\x80" + strings.Repeat("\x00", zeros) + string(lay(nil, uint64(size)*8, lengthBytes))
}

// lay lays a number in so many bytes, the highest first.
func lay(b []byte, n uint64, size int) []byte {
	for k := size - 1; k >= 0; k-- {
		b = append(b, byte(n>>(8*k)))
	}
	return b
}

// mix mixes the part in, which is full.
func (m *message) mix() {
	w := m.schedule()
	a, b, c, d := m.state[0], m.state[1], m.state[2], m.state[3]
	e, f, g, h := m.state[4], m.state[5], m.state[6], m.state[7]
	for t := range rounds {
		choice := (e & f) ^ (^e & g)
		majority := (a & b) ^ (a & c) ^ (b & c)
		t1 := h + turn(e, 6, 11, 25) + choice + cubeRoots[t] + w[t]
		t2 := turn(a, 2, 13, 22) + majority
		a, b, c, d, e, f, g, h = t1+t2, a, b, c, d+t1, e, f, g
	}
	for k, word := range [8]uint32{a, b, c, d, e, f, g, h} {
		m.state[k] += word
	}
}

// schedule makes a word for each round of the words of the part.
func (m *message) schedule() [rounds]uint32 {
	var w [rounds]uint32
	for k, b := range m.part {
		w[k/wordBytes] = w[k/wordBytes]<<8 | uint32(b)
	}
	for t := blockWords; t < rounds; t++ {
		w[t] = w[t-16] + shift(w[t-15], 7, 18, 3) + w[t-7] + shift(w[t-2], 17, 19, 10)
	}
	return w
}

// turn tells what a word turned to the right by i, by j and by k makes together.
func turn(x uint32, i, j, k int) uint32 {
	return bits.RotateLeft32(x, -i) ^ bits.RotateLeft32(x, -j) ^ bits.RotateLeft32(x, -k)
}

// shift is as turn, but that the k bits that go out on the right do not come back.
func shift(x uint32, i, j, k int) uint32 {
	return bits.RotateLeft32(x, -i) ^ bits.RotateLeft32(x, -j) ^ x>>k
}
