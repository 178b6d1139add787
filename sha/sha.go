// Package sha is layer 2: SHA-256 (FIPS 180-4). It stands on layer 1.
package sha

import "palfrey/bits"

// rounds are the rounds' numbers: the first 32 bits behind the point of the cube roots of the first 64 primes.
var rounds = [64]uint32{
	0x428a2f98, 0x71374491, 0xb5c0fbcf, 0xe9b5dba5, 0x3956c25b, 0x59f111f1, 0x923f82a4, 0xab1c5ed5,
	0xd807aa98, 0x12835b01, 0x243185be, 0x550c7dc3, 0x72be5d74, 0x80deb1fe, 0x9bdc06a7, 0xc19bf174,
	0xe49b69c1, 0xefbe4786, 0x0fc19dc6, 0x240ca1cc, 0x2de92c6f, 0x4a7484aa, 0x5cb0a9dc, 0x76f988da,
	0x983e5152, 0xa831c66d, 0xb00327c8, 0xbf597fc7, 0xc6e00bf3, 0xd5a79147, 0x06ca6351, 0x14292967,
	0x27b70a85, 0x2e1b2138, 0x4d2c6dfc, 0x53380d13, 0x650a7354, 0x766a0abb, 0x81c2c92e, 0x92722c85,
	0xa2bfe8a1, 0xa81a664b, 0xc24b8b70, 0xc76c51a3, 0xd192e819, 0xd6990624, 0xf40e3585, 0x106aa070,
	0x19a4c116, 0x1e376c08, 0x2748774c, 0x34b0bcb5, 0x391c0cb3, 0x4ed8aa4a, 0x5b9cca4f, 0x682e6ff3,
	0x748f82ee, 0x78a5636f, 0x84c87814, 0x8cc70208, 0x90befffa, 0xa4506ceb, 0xbef9a3f7, 0xc67178f2,
}

// Start is the first state.
func Start() [8]uint32 {
	return [8]uint32{
		0x6a09e667, 0xbb67ae85, 0x3c6ef372, 0xa54ff53a,
		0x510e527f, 0x9b05688c, 0x1f83d9ab, 0x5be0cd19,
	}
}

// Block is the state h, gone on by the block b.
func Block(h [8]uint32, b [64]byte) [8]uint32 {
	mixed := mix(h, spread(b))
	for i := range 8 {
		h[i] += mixed[i]
	}
	return h
}

// Pad is what is put behind a message of n bytes; none below 0.
func Pad(n int) []byte {
	if n < 0 {
		return nil
	}
	// The byte 128 and the noughts, 1 to 64 in all, reach to 8 bytes short of a block's end.
	// The remainder is taken ahead of adding, so that the greatest n does not go round.
	pad := make([]byte, 64-(n%64+8)%64)
	pad[0] = 128
	return append(pad, bits.PutBig(8*uint64(n), 8)...)
}

// Out is a state's numbers as bytes, the highest one of each first.
func Out(h [8]uint32) [32]byte {
	var out [32]byte
	for i := range 8 {
		copy(out[4*i:], bits.PutBig(uint64(h[i]), 4))
	}
	return out
}

// Sum is the sum of b.
func Sum(b []byte) [32]byte {
	h, rest := whole(Start(), b)
	return finish(h, rest, len(b))
}

// State is a message so far: what its whole blocks came to, the bytes behind them, and its length.
// One that was never written to is an empty message.
type State struct {
	h    [8]uint32
	tail [64]byte
	long int
}

// New is a state of an empty message.
func New() *State { return &State{} }

// Write puts b behind the message.
func (s *State) Write(b []byte) {
	if s == nil {
		return
	}
	if s.long == 0 {
		s.h = Start()
	}
	held := s.long % 64
	s.long += len(b)
	taken := copy(s.tail[held:], b)
	if held+taken < 64 {
		return
	}
	h, rest := whole(Block(s.h, s.tail), b[taken:])
	s.h = h
	s.tail = [64]byte{} // bytes that are done are not kept
	copy(s.tail[:], rest)
}

// Sum is the sum of the message so far, which may go on.
func (s *State) Sum() [32]byte {
	if s.Len() == 0 {
		return Sum(nil)
	}
	return finish(s.h, s.tail[:s.long%64], s.long)
}

// Len tells how many bytes the message has.
func (s *State) Len() int {
	if s == nil {
		return 0
	}
	return s.long
}

// whole is the state h, gone on by the whole blocks of b, and the bytes behind them.
func whole(h [8]uint32, b []byte) ([8]uint32, []byte) {
next:
	if len(b) >= 64 {
		var block [64]byte
		copy(block[:], b)
		h, b = Block(h, block), b[64:]
		goto next
	}
	return h, b
}

// finish is the sum of a message of n bytes, of which h has all whole blocks and rest the others.
func finish(h [8]uint32, rest []byte, n int) [32]byte {
	// The padding is put behind a copy: the room behind rest is not ours.
	end := append(append([]byte{}, rest...), Pad(n)...)
	h, _ = whole(h, end)
	return Out(h)
}

// spread makes the 64 numbers of the rounds from the 16 of a block.
func spread(b [64]byte) [64]uint32 {
	var w [64]uint32
	for i := range 16 {
		w[i] = uint32(bits.Big(b[4*i : 4*i+4]))
	}
	for i := range 48 {
		w[i+16] = w[i] + shift(w[i+1], 7, 18, 3) + w[i+9] + shift(w[i+14], 17, 19, 10)
	}
	return w
}

// mix is the state s behind all rounds. Its eight numbers go by the standard's letters, a to h.
func mix(s [8]uint32, w [64]uint32) [8]uint32 {
	a, b, c, d, e, f, g, h := s[0], s[1], s[2], s[3], s[4], s[5], s[6], s[7]
	for i := range 64 {
		one := h + turn(e, 6, 11, 25) + choose(e, f, g) + rounds[i] + w[i]
		two := turn(a, 2, 13, 22) + majority(a, b, c)
		a, b, c, d, e, f, g, h = one+two, a, b, c, d+one, e, f, g
	}
	return [8]uint32{a, b, c, d, e, f, g, h}
}

// turn is x turned to the right by each of three, by exclusive or.
func turn(x uint32, i, j, k int) uint32 {
	return bits.Left(x, -i) ^ bits.Left(x, -j) ^ bits.Left(x, -k)
}

// shift is like turn, but by the last one x is shifted, not turned.
func shift(x uint32, i, j, k int) uint32 {
	return bits.Left(x, -i) ^ bits.Left(x, -j) ^ x>>uint(k)
}

// choose takes each bit from y where x has a one, else from z.
func choose(x, y, z uint32) uint32 { return x&y ^ ^x&z }

// majority takes each bit that two of three have.
func majority(x, y, z uint32) uint32 { return x&y ^ x&z ^ y&z }
