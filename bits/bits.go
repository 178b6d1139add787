// Package bits is layer 1: bytes as numbers. It stands on nothing.
package bits

// Big is the number of b's bytes, the highest one first; of more than eight the last eight count.
func Big(b []byte) uint64 {
	b = b[max(len(b)-8, 0):]
	var last [8]byte
	copy(last[8-len(b):], b)
	var n uint64
	for i := range 8 {
		n = n<<8 | uint64(last[i])
	}
	return n
}

// Little is the number of b's bytes, the lowest one first; of more than eight the first eight count.
func Little(b []byte) uint64 {
	var first [8]byte
	copy(first[:], b)
	var n uint64
	for i := range 8 {
		n |= uint64(first[i]) << uint(8*i)
	}
	return n
}

// PutBig tells the lowest many bytes of n, the highest one first: none below 0, noughts ahead above 8.
func PutBig(n uint64, many int) []byte {
	return put(many, func(i int) byte { return at(n, many-1-i) })
}

// PutLittle tells the lowest many bytes of n, the lowest one first: none below 0, noughts behind above 8.
func PutLittle(n uint64, many int) []byte {
	return put(many, func(i int) byte { return at(n, i) })
}

// Xor is the exclusive or of a and b, as long as the shorter one.
func Xor(a, b []byte) []byte {
	return put(min(len(a), len(b)), func(i int) byte { return a[i] ^ b[i] })
}

// Equal tells whether a and b are the same.
func Equal(a, b []byte) bool {
	if len(a) != len(b) {
		return false
	}
	// Differences are gathered, not answered at once, so that where they stand shows in no way.
	var differ byte
	for i := range len(a) {
		differ |= a[i] ^ b[i]
	}
	return differ == 0
}

// Left is x, its bits turned round to the left n times; n below 0 turns to the right.
func Left(x uint32, n int) uint32 {
	// The lowest five bits of n are its remainder by 32 whatever its sign.
	turns := uint(n) & 31
	return x<<turns | x>>(32-turns)
}

// Count is c as a number of 128 bits, the highest byte first, and n more; it goes round.
func Count(c [16]byte, n uint64) [16]byte {
	high, low := Big(c[:8]), Big(c[8:])+n
	if low < n { // the lower half went round
		high++
	}
	var sum [16]byte
	copy(sum[:8], PutBig(high, 8))
	copy(sum[8:], PutBig(low, 8))
	return sum
}

// put makes a new list of many bytes, each as tell says of its place.
func put(many int, tell func(i int) byte) []byte {
	out := make([]byte, max(many, 0))
	for i := range many {
		out[i] = tell(i)
	}
	return out
}

// at is the byte of n at place i, the lowest one at 0; beyond n's own it is a nought.
func at(n uint64, i int) byte {
	return byte(n >> uint(8*i))
}
