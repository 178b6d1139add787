package bits_test

import (
	"bytes"
	"math"
	"math/big"
	"testing"

	"palfrey/bits"
)

// room is a list with bytes in the spare room behind its end, which no call may change.
func room(b ...byte) ([]byte, func() bool) {
	whole := append(append([]byte{}, b...), 0xa1, 0xa2, 0xa3, 0xa4, 0xa5, 0xa6, 0xa7, 0xa8)
	before := bytes.Clone(whole)
	return whole[:len(b)], func() bool { return bytes.Equal(whole, before) }
}

// numbers are some of all kinds: small, great, with bits at the edges of their bytes.
func numbers() []uint64 {
	l := []uint64{0, 1, 2, 127, 128, 255, 256, 258, 65535, 65536, 0x0102030405060708, 0xfedcba9876543210, math.MaxInt64, 1 << 63, math.MaxUint64 - 1, math.MaxUint64}
	for i := range 64 {
		l = append(l, 1<<i)
	}
	return l
}

func TestP11Numbers(t *testing.T) {
	for _, c := range []struct {
		b           []byte
		big, little uint64
	}{
		{nil, 0, 0},
		{[]byte{}, 0, 0},
		{[]byte{7}, 7, 7},
		{[]byte{1, 2}, 258, 513},
		{[]byte{0, 0, 1}, 1, 0x010000},
		{[]byte{1, 0, 0}, 0x010000, 1},
		{[]byte{1, 2, 3, 4, 5, 6, 7}, 0x01020304050607, 0x07060504030201},
		{[]byte{1, 2, 3, 4, 5, 6, 7, 8}, 0x0102030405060708, 0x0807060504030201},
		{[]byte{255, 255, 255, 255, 255, 255, 255, 255}, math.MaxUint64, math.MaxUint64},
		{[]byte{128, 0, 0, 0, 0, 0, 0, 1}, 1<<63 + 1, 1<<56 + 128},
		{[]byte{9, 1, 2, 3, 4, 5, 6, 7, 8}, 0x0102030405060708, 0x0706050403020109},
		{[]byte{1, 2, 3, 4, 5, 6, 7, 8, 9}, 0x0203040506070809, 0x0807060504030201},
		{[]byte{1, 2, 3, 4, 5, 6, 7, 8, 9, 10, 11, 12, 13, 14, 15, 16, 17}, 0x0a0b0c0d0e0f1011, 0x0807060504030201},
	} {
		if n := bits.Big(c.b); n != c.big {
			t.Errorf("P1.1: Big(%v) = %#x, not %#x", c.b, n, c.big)
		}
		if n := bits.Little(c.b); n != c.little {
			t.Errorf("P1.1: Little(%v) = %#x, not %#x", c.b, n, c.little)
		}
	}
}

func TestP11Bytes(t *testing.T) {
	for _, c := range []struct {
		n           uint64
		many        int
		big, little []byte
	}{
		{258, 0, nil, nil},
		{258, -1, nil, nil},
		{258, math.MinInt, nil, nil},
		{258, 1, []byte{2}, []byte{2}},
		{258, 2, []byte{1, 2}, []byte{2, 1}},
		{258, 3, []byte{0, 1, 2}, []byte{2, 1, 0}},
		{0x0102030405060708, 7, []byte{2, 3, 4, 5, 6, 7, 8}, []byte{8, 7, 6, 5, 4, 3, 2}},
		{0x0102030405060708, 8, []byte{1, 2, 3, 4, 5, 6, 7, 8}, []byte{8, 7, 6, 5, 4, 3, 2, 1}},
		{0x0102030405060708, 9, []byte{0, 1, 2, 3, 4, 5, 6, 7, 8}, []byte{8, 7, 6, 5, 4, 3, 2, 1, 0}},
		{math.MaxUint64, 11, []byte{0, 0, 0, 255, 255, 255, 255, 255, 255, 255, 255}, []byte{255, 255, 255, 255, 255, 255, 255, 255, 0, 0, 0}},
	} {
		if b := bits.PutBig(c.n, c.many); !bytes.Equal(b, c.big) {
			t.Errorf("P1.1: PutBig(%#x, %d) = %v, not %v", c.n, c.many, b, c.big)
		}
		if b := bits.PutLittle(c.n, c.many); !bytes.Equal(b, c.little) {
			t.Errorf("P1.1: PutLittle(%#x, %d) = %v, not %v", c.n, c.many, b, c.little)
		}
	}
}

// Far above eight the noughts go on: a shift's width must not go round.
func TestP11ManyNoughts(t *testing.T) {
	const many = 1 << 12
	ahead, behind := bits.PutBig(math.MaxUint64, many), bits.PutLittle(math.MaxUint64, many)
	ones, noughts := bytes.Repeat([]byte{255}, 8), make([]byte, many-8)
	if !bytes.Equal(ahead, append(bytes.Clone(noughts), ones...)) {
		t.Error("P1.1: PutBig of many")
	}
	if !bytes.Equal(behind, append(bytes.Clone(ones), noughts...)) {
		t.Error("P1.1: PutLittle of many")
	}
}

func TestP12Xor(t *testing.T) {
	for _, c := range []struct{ a, b, want []byte }{
		{nil, nil, nil},
		{nil, []byte{1, 2}, nil},
		{[]byte{1, 2}, []byte{}, nil},
		{[]byte{1, 2, 3}, []byte{3, 3}, []byte{2, 1}},
		{[]byte{3, 3}, []byte{1, 2, 3}, []byte{2, 1}},
		{[]byte{0xf0, 0x0f, 0xff}, []byte{0xff, 0xff, 0xff}, []byte{0x0f, 0xf0, 0x00}},
	} {
		if x := bits.Xor(c.a, c.b); !bytes.Equal(x, c.want) {
			t.Errorf("P1.2: Xor(%v, %v) = %v, not %v", c.a, c.b, x, c.want)
		}
	}
}

func TestP12Equal(t *testing.T) {
	for _, c := range []struct {
		a, b []byte
		want bool
	}{
		{nil, nil, true},
		{nil, []byte{}, true},
		{nil, []byte{0}, false},
		{[]byte{0}, nil, false},
		{[]byte{0}, []byte{0, 0}, false},
		{[]byte{1, 2, 3}, []byte{1, 2}, false},
		{[]byte{1, 2}, []byte{1, 2}, true},
		{[]byte{1, 2}, []byte{2, 1}, false},
		{[]byte{1, 1}, []byte{0, 0}, false}, // two differences that would undo one another
		{[]byte{128, 128}, []byte{0, 0}, false},
	} {
		if bits.Equal(c.a, c.b) != c.want {
			t.Errorf("P1.2: Equal(%v, %v) is not %v", c.a, c.b, c.want)
		}
	}
	a := []byte("the same but for one bit")
	for i := range 8 * len(a) {
		b := bytes.Clone(a)
		b[i/8] ^= 1 << (i % 8)
		if bits.Equal(a, b) || bits.Equal(b, a) {
			t.Errorf("P1.2: Equal does not see bit %d", i)
		}
	}
}

// turned turns one bit at a time.
func turned(x uint32, n int) uint32 {
	for range ((n % 32) + 32) % 32 {
		x = x<<1 | x>>31
	}
	return x
}

func TestP12Left(t *testing.T) {
	for _, c := range []struct {
		x    uint32
		n    int
		want uint32
	}{
		{0x80000001, 0, 0x80000001},
		{0x80000001, 1, 3},
		{3, -1, 0x80000001},
		{0x12345678, 8, 0x34567812},
		{0x12345678, -8, 0x78123456},
		{1, 31, 0x80000000},
		{1, 32, 1},
		{1, 33, 2},
		{1, -31, 2},
		{1, -32, 1},
		{1, -33, 0x80000000},
		{1, math.MaxInt, 0x80000000},
		{1, math.MinInt, 1},
		{1, math.MinInt + 1, 2},
	} {
		if x := bits.Left(c.x, c.n); x != c.want {
			t.Errorf("P1.2: Left(%#x, %d) = %#x, not %#x", c.x, c.n, x, c.want)
		}
	}
	for _, x := range []uint32{0, 1, 0x80000000, 0xdeadbeef, math.MaxUint32} {
		for n := -100; n <= 100; n++ {
			if got, want := bits.Left(x, n), turned(x, n); got != want {
				t.Errorf("P1.2: Left(%#x, %d) = %#x, not %#x", x, n, got, want)
			}
		}
	}
}

// counted adds by numbers of any length, and takes the lowest 128 bits.
func counted(c [16]byte, n uint64) [16]byte {
	sum := new(big.Int).Add(new(big.Int).SetBytes(c[:]), new(big.Int).SetUint64(n))
	sum.And(sum, new(big.Int).Sub(new(big.Int).Lsh(big.NewInt(1), 128), big.NewInt(1)))
	var out [16]byte
	sum.FillBytes(out[:])
	return out
}

func TestP12Count(t *testing.T) {
	var all [16]byte
	for i := range all {
		all[i] = 255
	}
	low := all // the lower eight bytes alone are full
	clear(low[:8])
	for _, c := range []struct {
		c    [16]byte
		n    uint64
		want [16]byte
	}{
		{[16]byte{}, 0, [16]byte{}},
		{[16]byte{}, 258, [16]byte{14: 1, 15: 2}},
		{[16]byte{15: 255}, 1, [16]byte{14: 1}},
		{low, 1, [16]byte{7: 1}},
		{low, 0, low},
		{low, math.MaxUint64, [16]byte{7: 1, 8: 255, 9: 255, 10: 255, 11: 255, 12: 255, 13: 255, 14: 255, 15: 254}},
		{all, 0, all},
		{all, 1, [16]byte{}},
		{all, 2, [16]byte{15: 1}},
		{all, math.MaxUint64, [16]byte{8: 255, 9: 255, 10: 255, 11: 255, 12: 255, 13: 255, 14: 255, 15: 254}},
	} {
		if got := bits.Count(c.c, c.n); got != c.want {
			t.Errorf("P1.2: Count(%v, %d) = %v, not %v", c.c, c.n, got, c.want)
		}
	}
	for _, high := range numbers() {
		for _, low := range numbers() {
			c := [16]byte(append(bits.PutBig(high, 8), bits.PutBig(low, 8)...))
			for _, n := range []uint64{0, 1, 255, 1 << 32, 1 << 63, math.MaxUint64} {
				if got, want := bits.Count(c, n), counted(c, n); got != want {
					t.Fatalf("P1.2: Count(%v, %d) = %v, not %v", c, n, got, want)
				}
			}
		}
	}
}

func TestP13PutIsTheNumberAgain(t *testing.T) {
	for _, n := range numbers() {
		for many := -2; many <= 12; many++ {
			want := n
			if many < 8 {
				want &= 1<<(8*max(many, 0)) - 1
			}
			b, l := bits.PutBig(n, many), bits.PutLittle(n, many)
			if len(b) != max(many, 0) || len(l) != max(many, 0) {
				t.Errorf("P1.3: %d and %d bytes put of %d", len(b), len(l), many)
			}
			if got := bits.Big(b); got != want {
				t.Errorf("P1.3: Big(PutBig(%#x, %d)) = %#x, not %#x", n, many, got, want)
			}
			if got := bits.Little(l); got != want {
				t.Errorf("P1.3: Little(PutLittle(%#x, %d)) = %#x, not %#x", n, many, got, want)
			}
		}
	}
}

func TestP13XorUndoesItself(t *testing.T) {
	a := []byte{0, 1, 2, 0x55, 0xaa, 255, 128, 9}
	b := []byte{7, 255, 0, 0xaa, 0x55, 255, 127, 1}
	for i := range len(a) + 1 {
		for j := range len(b) + 1 {
			short := min(i, j)
			if got := bits.Xor(a[:i], bits.Xor(a[:i], b[:j])); !bytes.Equal(got, b[:short]) {
				t.Errorf("P1.3: Xor of %d and %d bytes, twice: %v", i, j, got)
			}
		}
	}
}

func TestR4NothingHandedInIsChanged(t *testing.T) {
	for many := range 12 {
		l := make([]byte, many)
		for i := range l {
			l[i] = byte(i + 1)
		}
		a, sameA := room(l...)
		b, sameB := room(l...)
		bits.Big(a)
		bits.Little(a)
		bits.Equal(a, b)
		bits.Xor(a, b)
		bits.Xor(a, b[:many/2])
		if !sameA() || !sameB() {
			t.Errorf("R4: a list of %d bytes was changed", many)
		}
	}
	c := [16]byte{15: 255}
	bits.Count(c, 1)
	if c != [16]byte{15: 255} {
		t.Error("R4: Count changed its argument")
	}
}

func TestR4WhatIsHandedOutIsNew(t *testing.T) {
	a, same := room(1, 2, 3)
	x := bits.Xor(a, make([]byte, 3))
	y := bits.Xor(make([]byte, 3), a)
	clear(x[:cap(x)])
	clear(y[:cap(y)])
	if !same() {
		t.Error("R4: what Xor tells shares memory with what it was given")
	}
	for _, put := range []func(uint64, int) []byte{bits.PutBig, bits.PutLittle} {
		first := put(0x0101, 2)
		clear(first[:cap(first)])
		if !bytes.Equal(put(0x0101, 2), []byte{1, 1}) {
			t.Error("R4: two lists that were put share memory")
		}
	}
}

func TestExamplesOfTheChapter(t *testing.T) {
	if bits.Big([]byte{1, 2}) != 258 || bits.Little([]byte{1, 2}) != 513 {
		t.Error("example 1")
	}
	if bits.Left(0x80000001, 1) != 3 {
		t.Error("example 2")
	}
}
