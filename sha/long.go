package sha

import (
	"math/bits"

	"bandbox/octet"
)

// longBlock is how many bytes SHA-512 mixes in at a time.
const longBlock = 128

// Long is SHA-512.
func Long(parts ...[]byte) [64]byte {
	s := &longSum{}
	for i := range s.state {
		s.state[i] = starts[i]
	}
	for _, part := range parts {
		s.add(part)
	}
	s.add(ending(s.n, longBlock, 16))
	var out [64]byte
	for i, v := range s.state {
		copy(out[8*i:], octet.Big(nil, v, 8))
	}
	return out
}

// longSum is to SHA-512 what Sum is to SHA-256.
type longSum struct {
	state [8]uint64
	rest  [longBlock]byte // its first n%longBlock bytes wait for a whole block
	n     int64
}

func (s *longSum) add(b []byte) {
	for len(b) > 0 {
		took := copy(s.rest[s.n%longBlock:], b)
		b = b[took:]
		s.n += int64(took)
		if s.n%longBlock == 0 {
			s.mix()
		}
	}
}

// mix takes a whole block into the state.
func (s *longSum) mix() {
	w := s.spread()
	a, b, c, d := s.state[0], s.state[1], s.state[2], s.state[3]
	e, f, g, h := s.state[4], s.state[5], s.state[6], s.state[7]
	for i, v := range w {
		v += rounds[i] + h + longTurned(e, 14, 18, 41) + (e&f ^ ^e&g)
		u := longTurned(a, 28, 34, 39) + (a&b ^ a&c ^ b&c)
		a, b, c, d, e, f, g, h = v+u, a, b, c, d+v, e, f, g
	}
	for i, v := range [8]uint64{a, b, c, d, e, f, g, h} {
		s.state[i] += v
	}
}

// spread makes a word for each round of the block's sixteen.
func (s *longSum) spread() [80]uint64 {
	var w [80]uint64
	for i := range 16 {
		w[i], _ = octet.FromBig(s.rest[8*i : 8*i+8])
	}
	for i := 16; i < len(w); i++ {
		x, y := w[i-15], w[i-2]
		x = bits.RotateLeft64(x, -1) ^ bits.RotateLeft64(x, -8) ^ x>>7
		y = bits.RotateLeft64(y, -19) ^ bits.RotateLeft64(y, -61) ^ y>>6
		w[i] = w[i-16] + x + w[i-7] + y
	}
	return w
}

// longTurned is v rotated to the right three ways, the one on the other.
func longTurned(v uint64, i, j, k int) uint64 {
	return bits.RotateLeft64(v, -i) ^ bits.RotateLeft64(v, -j) ^ bits.RotateLeft64(v, -k)
}
