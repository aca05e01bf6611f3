package hash

import "math/bits"

const (
	// chunk is how many bytes are mixed at once.
	chunk = 64
	// turns is how often a chunk is mixed.
	turns = 64
	// tail is in how many bytes of the last chunk the number of bits stands.
	tail = 8
)

// keys are the constants of FIPS 180-4, 4.2.2, one a turn.
var keys = [turns]uint32{
	0x428a2f98, 0x71374491, 0xb5c0fbcf, 0xe9b5dba5, 0x3956c25b, 0x59f111f1, 0x923f82a4, 0xab1c5ed5,
	0xd807aa98, 0x12835b01, 0x243185be, 0x550c7dc3, 0x72be5d74, 0x80deb1fe, 0x9bdc06a7, 0xc19bf174,
	0xe49b69c1, 0xefbe4786, 0x0fc19dc6, 0x240ca1cc, 0x2de92c6f, 0x4a7484aa, 0x5cb0a9dc, 0x76f988da,
	0x983e5152, 0xa831c66d, 0xb00327c8, 0xbf597fc7, 0xc6e00bf3, 0xd5a79147, 0x06ca6351, 0x14292967,
	0x27b70a85, 0x2e1b2138, 0x4d2c6dfc, 0x53380d13, 0x650a7354, 0x766a0abb, 0x81c2c92e, 0x92722c85,
	0xa2bfe8a1, 0xa81a664b, 0xc24b8b70, 0xc76c51a3, 0xd192e819, 0xd6990624, 0xf40e3585, 0x106aa070,
	0x19a4c116, 0x1e376c08, 0x2748774c, 0x34b0bcb5, 0x391c0cb3, 0x4ed8aa4a, 0x5b9cca4f, 0x682e6ff3,
	0x748f82ee, 0x78a5636f, 0x84c87814, 0x8cc70208, 0x90befffa, 0xa4506ceb, 0xbef9a3f7, 0xc67178f2,
}

// digest is a SHA-256 on its way: what is mixed so far, a chunk that is begun, and how
// many bytes were written.
type digest struct {
	mixed [8]uint32
	begun [chunk]byte
	n     uint64
}

// begin is a digest of no bytes yet.
func begin() digest {
	return digest{mixed: [8]uint32{
		0x6a09e667, 0xbb67ae85, 0x3c6ef372, 0xa54ff53a,
		0x510e527f, 0x9b05688c, 0x1f83d9ab, 0x5be0cd19,
	}}
}

// write takes bytes, and mixes each chunk that is full.
func (s *digest) write(b []byte) {
	for len(b) > 0 {
		n := copy(s.begun[s.n%chunk:], b)
		s.n += uint64(n)
		b = b[n:]
		if s.n%chunk == 0 {
			s.mix()
		}
	}
}

// end fills the last chunk: a bit, noughts, the number of bits that were written.
func (s *digest) end() [32]byte {
	n := 8 * s.n
	fill := [chunk]byte{0x80}
	room := (2*chunk - tail - 1 - s.n%chunk) % chunk
	s.write(fill[:1+room])
	var last [tail]byte
	for i := range last {
		last[i] = byte(n >> (8 * (tail - 1 - i)))
	}
	s.write(last[:])
	return s.sum()
}

// sum is what is mixed, as bytes: of each word the highest first.
func (s *digest) sum() [32]byte {
	var b [32]byte
	for i := range b {
		b[i] = byte(s.mixed[i/4] >> (24 - 8*(i%4)))
	}
	return b
}

// words are the chunk's sixteen, and those that come of them, one a turn.
func (s *digest) words() [turns]uint32 {
	var w [turns]uint32
	for i := range chunk / 4 {
		b := s.begun[4*i:]
		w[i] = uint32(b[0])<<24 | uint32(b[1])<<16 | uint32(b[2])<<8 | uint32(b[3])
	}
	for i := chunk / 4; i < turns; i++ {
		a, b := w[i-15], w[i-2]
		early := right(a, 7) ^ right(a, 18) ^ a>>3
		late := right(b, 17) ^ right(b, 19) ^ b>>10
		w[i] = w[i-16] + early + w[i-7] + late
	}
	return w
}

// mix mixes the chunk in: FIPS 180-4, 6.2.2, with its names.
func (s *digest) mix() {
	words := s.words()
	a, b, c, d := s.mixed[0], s.mixed[1], s.mixed[2], s.mixed[3]
	e, f, g, h := s.mixed[4], s.mixed[5], s.mixed[6], s.mixed[7]
	for i, w := range words {
		one := h + (right(e, 6) ^ right(e, 11) ^ right(e, 25)) + (e&f ^ ^e&g) + keys[i] + w
		two := (right(a, 2) ^ right(a, 13) ^ right(a, 22)) + (a&b ^ a&c ^ b&c)
		h, g, f, e = g, f, e, d+one
		d, c, b, a = c, b, a, one+two
	}
	for i, v := range [8]uint32{a, b, c, d, e, f, g, h} {
		s.mixed[i] += v
	}
}

// right turns a word round to the right.
func right(w uint32, by int) uint32 { return bits.RotateLeft32(w, -by) }
