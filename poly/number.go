package poly

import "math/bits"

// number is a number of 130 bits in three words, the lowest one first.
// Between two parts it is not brought below 2^130 - 5, which would be dear: it stays below 2^130 + 2^128, and is
// what it is modulo 2^130 - 5 alone.
type number [3]uint64

// plus is x and y.
func (x number) plus(y number) number {
	var carry uint64
	for i := range 3 {
		x[i], carry = bits.Add64(x[i], y[i], carry)
	}
	return x
}

// times is x times r, modulo 2^130 - 5. It takes an x below 2^131 and an r below 2^124, as each clamped one is.
func (x number) times(r number) number {
	var out [5]uint64
	for i := range 2 { // r's third word is nought
		for j := range 3 { // the carry is kept where it comes to rest
			out[i+j], out[i+3] = onto(out[i+j], x[j], r[i], out[i+3])
		}
	}
	return fold(out)
}

// onto is x times y, and both a and b more, as its lower word and its higher one: it is below 2^128, whatever they are.
func onto(a, x, y, b uint64) (uint64, uint64) {
	high, low := bits.Mul64(x, y)
	low, carry := bits.Add64(low, a, 0)
	high += carry
	low, carry = bits.Add64(low, b, 0)
	return low, high + carry
}

// fold brings a number below 2^255, whose fifth word thus is nought, below 2^130 + 2^128, modulo 2^130 - 5: there
// 2^130 is 5, so what stands above the lowest 130 bits is taken five times: four times, by leaving it two bits
// higher, and once.
func fold(x [5]uint64) number {
	four := number{x[2] &^ 3, x[3]}
	one := number{x[2]>>2 | x[3]<<62, x[3] >> 2}
	return number{x[0], x[1], x[2] & 3}.plus(four.plus(one))
}

// least is what x is modulo 2^130 - 5, for an x below 2^130 + 2^128; of its bits the lowest 128 alone are told right.
func (x number) least() number {
	// 2^130 - 5 is taken off if 5 more reach 2^130. Taking it off is adding 5 where 2^130 is left out, as it is
	// of the lowest 128 bits; so there is no need to choose by a number that hangs on the key.
	reached := x.plus(number{5})[2] >> 2
	return x.plus(number{5 * reached})
}
