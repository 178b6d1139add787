package ghash_test

import (
	"bytes"
	"encoding/hex"
	"math"
	"math/big"
	"testing"

	"palfrey/ghash"
)

// read reads bytes written in hex.
func read(t *testing.T, s string) []byte {
	t.Helper()
	b, e := hex.DecodeString(s)
	if e != nil {
		t.Fatal(e)
	}
	return b
}

// drawn makes bytes that look like chance, and are the same each time.
func drawn(seed uint64) func(n int) []byte {
	return func(n int) []byte {
		b := make([]byte, n)
		for i := range b {
			seed = seed*6364136223846793005 + 1442695040888963407
			b[i] = byte(seed >> 56)
		}
		return b
	}
}

// one is the block that stands for 1.
func one() [16]byte { return [16]byte{128} }

func full() [16]byte { return [16]byte(bytes.Repeat([]byte{255}, 16)) }

// alone is the block that stands for x to the i-th.
func alone(i int) [16]byte {
	var b [16]byte
	b[i/8] = 128 >> (i % 8)
	return b
}

// xor is both by exclusive or.
func xor(a, b [16]byte) [16]byte {
	for i := range a {
		a[i] ^= b[i]
	}
	return a
}

// polynomial is a block's, its bit of x to the i-th as the bit i of a number.
func polynomial(b [16]byte) *big.Int {
	n := new(big.Int)
	for i := range 128 {
		n.SetBit(n, i, uint(b[i/8]>>(7-i%8)&1))
	}
	return n
}

// product multiplies polynomials out, and then takes the modulus off from the highest bit on.
func product(a, b [16]byte) [16]byte {
	x, y, sum := polynomial(a), polynomial(b), new(big.Int)
	for i := range 128 {
		if x.Bit(i) == 1 {
			sum.Xor(sum, new(big.Int).Lsh(y, uint(i)))
		}
	}
	modulus := new(big.Int)
	for _, i := range []int{128, 7, 2, 1, 0} {
		modulus.SetBit(modulus, i, 1)
	}
	for i := 255; i >= 128; i-- {
		if sum.Bit(i) == 1 {
			sum.Xor(sum, new(big.Int).Lsh(modulus, uint(i-128)))
		}
	}
	var out [16]byte
	for i := range 128 {
		out[i/8] |= byte(sum.Bit(i)) << (7 - i%8)
	}
	return out
}

// slow hashes as the chapter's words say, noughts put behind first.
func slow(h [16]byte, b []byte) [16]byte {
	b = bytes.Clone(b)
	for len(b)%16 != 0 {
		b = append(b, 0)
	}
	var sum [16]byte
	for i := 0; i < len(b); i += 16 {
		sum = product(xor(sum, [16]byte(b[i:i+16])), h)
	}
	return sum
}

// blocks are some at the edges, and others.
func blocks() [][16]byte {
	l := [][16]byte{{}, one(), full(), {0xe1}, {0xc2}, {15: 0x87}, alone(1), alone(7), alone(8), alone(63), alone(64), alone(126), alone(127)}
	draw := drawn(1)
	for range 12 {
		l = append(l, [16]byte(draw(16)))
	}
	return l
}

func TestP61MulAgainstTheChaptersWords(t *testing.T) {
	for _, a := range blocks() {
		for _, b := range blocks() {
			if got, want := ghash.Mul(a, b), product(a, b); got != want {
				t.Errorf("P6.1: Mul(%x, %x) = %x, not %x", a, b, got, want)
			}
		}
	}
}

// Powers of x add up; those from the 128th on are the modulus's other bits.
func TestP61MulOfPowers(t *testing.T) {
	for i := range 128 {
		for j := range 128 {
			want := alone((i + j) % 128)
			if i+j >= 128 {
				want = product(alone(i), alone(j))
			}
			if got := ghash.Mul(alone(i), alone(j)); got != want {
				t.Fatalf("P6.1: x^%d times x^%d = %x, not %x", i, j, got, want)
			}
		}
	}
	if got := ghash.Mul(alone(127), alone(1)); got != [16]byte{0xe1} {
		t.Errorf("P6.1: x^128 = %x", got)
	}
	if got := ghash.Mul(alone(127), alone(2)); got != [16]byte{0x70, 0x80} {
		t.Errorf("P6.1: x^129 = %x", got)
	}
}

func TestP61MulWithNought(t *testing.T) {
	for _, a := range blocks() {
		if ghash.Mul(a, [16]byte{}) != [16]byte{} || ghash.Mul([16]byte{}, a) != [16]byte{} {
			t.Errorf("P6.1: %x times nought is not nought", a)
		}
	}
}

// The hashes within the examples of GCM's authors, which the standard names: behind each block of the text.
func TestP61MulOfTheStandard(t *testing.T) {
	h := [16]byte(read(t, "b83b533708bf535d0aa6e52980d53b78"))
	text := read(t, "42831ec2217774244b7221b784d0d49ce3aa212f2c02a4e035c17e2329aca12e21d514b25466931c7d8f6a5aac84aa051ba30b396a0aac973d58e091473f5985")
	var sum [16]byte
	for i, want := range []string{"59ed3f2bb1a0aaa07c9f56c6a504647b", "b714c9048389afd9f9bc5c1d4378e052", "47400c6577b1ee8d8f40b2721e86ff10", "4796cf49464704b5dd91f159bb1b7f95"} {
		sum = ghash.Mul(xor(sum, [16]byte(text[16*i:])), h)
		if hex.EncodeToString(sum[:]) != want {
			t.Errorf("P6.1: behind block %d: %x, not %s", i, sum, want)
		}
		if got := ghash.Sum(h, text[:16*i+16]); got != sum {
			t.Errorf("P6.1: the sum of %d blocks = %x, not %s", i+1, got, want)
		}
	}
}

// Whole hashes of those examples: the aad and the text, each with noughts behind, and their lengths.
func TestP61SumOfTheStandard(t *testing.T) {
	const (
		nought = "66e94bd4ef8a2c3b884cfa59ca342b2e"
		short  = "b83b533708bf535d0aa6e52980d53b78"
		wide   = "acbef20579b4b8ebce889bac8732dad7"
		text   = "42831ec2217774244b7221b784d0d49ce3aa212f2c02a4e035c17e2329aca12e21d514b25466931c7d8f6a5aac84aa051ba30b396a0aac973d58e091473f5985"
		other  = "522dc1f099567d07f47f37a32a84427d643a8cdcbfe5c0c97598a2bd2555d1aa8cb08e48590dbb3da7b08b1056828838c5f61e6393ba7a0abcc9f662898015ad"
		aad    = "feedfacedeadbeeffeedfacedeadbeefabaddad2"
		iv     = "9313225df88406e555909c5aff5269aa6a7a9538534f7da1e4c303d2a318a728c3c0c95156809539fcf0e2429a6b525416aedbf5a0de6a57a637b39b"
	)
	for _, c := range []struct{ h, aad, text, want string }{
		{nought, "", "", "00000000000000000000000000000000"},
		{nought, "", "0388dace60b6a392f328c2b971b2fe78", "f38cbb1ad69223dcc3457ae5b6b0f885"},
		{short, "", text, "7f1b32b81b820d02614f8895ac1d4eac"},
		{short, aad, text[:120], "698e57f70e6ecc7fd9463b7260a9ae5f"},
		{short, "", "cafebabefacedbad", "c43a83c4c4badec4354ca984db252f7d"},
		{short, "", iv, "3bab75780a31c059f83d2a44752f9864"},
		{"dc95c078a2408989ad48a21492842087", "", "cea7403d4d606b6e074ec5d3baf39d18", "83de425c5edc5d498f382c441041ca92"},
		{wide, "", other, "4db870d37cb75fcb46097c36230d1612"},
		{wide, aad, other[:120], "8bd0c4d8aacd391e67cca447e8c38f65"},
	} {
		h, aad, text := [16]byte(read(t, c.h)), read(t, c.aad), read(t, c.text)
		end := ghash.Lengths(len(aad), len(text))
		var whole []byte
		for _, b := range [][]byte{aad, text, end[:]} {
			whole = append(whole, b...)
			whole = append(whole, make([]byte, ghash.Pad(len(b)))...)
		}
		if got := ghash.Sum(h, whole); hex.EncodeToString(got[:]) != c.want {
			t.Errorf("P6.1: by %s, of %q and %q: %x, not %s", c.h, c.aad, c.text, got, c.want)
		}
	}
}

func TestP61SumAgainstTheChaptersWords(t *testing.T) {
	draw := drawn(2)
	for _, h := range append([][16]byte{{}, one(), full(), alone(127)}, [16]byte(draw(16)), [16]byte(draw(16))) {
		for n := range 70 { // about the end of a block, and of two, and so on
			for _, b := range [][]byte{draw(n), bytes.Repeat([]byte{255}, n)} {
				if got, want := ghash.Sum(h, b), slow(h, b); got != want {
					t.Fatalf("P6.1: Sum(%x, %x) = %x, not %x", h, b, got, want)
				}
			}
		}
	}
	h, b := [16]byte(draw(16)), draw(4097)
	if got, want := ghash.Sum(h, b), slow(h, b); got != want {
		t.Errorf("P6.1: Sum(%x, %d bytes) = %x, not %x", h, len(b), got, want)
	}
}

func TestP61SumOfNothing(t *testing.T) {
	for _, h := range blocks() {
		for _, b := range [][]byte{nil, {}, make([]byte, 0, 40), bytes.Repeat([]byte{255}, 40)[:0]} {
			if got := ghash.Sum(h, b); got != [16]byte{} {
				t.Errorf("P6.1: Sum(%x, nothing) = %x", h, got)
			}
		}
	}
}

// Noughts behind the last bytes, to a whole block, change nothing; one more makes another block.
func TestP61NoughtsBehind(t *testing.T) {
	draw := drawn(3)
	h := [16]byte(draw(16))
	for n := 1; n < 50; n++ {
		b := draw(n)
		want := ghash.Sum(h, b)
		for more := range ghash.Pad(n) + 1 {
			if got := ghash.Sum(h, append(bytes.Clone(b), make([]byte, more)...)); got != want {
				t.Errorf("P6.1: %d noughts behind %d bytes: %x, not %x", more, n, got, want)
			}
		}
		if got := ghash.Sum(h, append(bytes.Clone(b), make([]byte, ghash.Pad(n)+1)...)); got != ghash.Mul(want, h) {
			t.Errorf("P6.1: a block of noughts behind %d bytes: %x", n, got)
		}
	}
}

func TestP61Pad(t *testing.T) {
	for n, want := range map[int]int{
		math.MinInt: 0, math.MinInt + 1: 0, -33: 0, -32: 0, -17: 0, -16: 0, -15: 0, -3: 0, -1: 0, 0: 0,
		1: 15, 2: 14, 8: 8, 15: 1, 16: 0, 17: 15, 31: 1, 32: 0, 33: 15, 4095: 1, 4096: 0, 4097: 15,
		1<<31 - 1: 1, 1 << 31: 0, 1<<31 + 1: 15, math.MaxInt - 15: 0, math.MaxInt - 14: 15, math.MaxInt - 1: 2, math.MaxInt: 1,
	} {
		if got := ghash.Pad(n); got != want {
			t.Errorf("P6.1: Pad(%d) = %d, not %d", n, got, want)
		}
	}
	for n := range 200 {
		if got := ghash.Pad(n); got < 0 || got > 15 || (n+got)%16 != 0 {
			t.Errorf("P6.1: Pad(%d) = %d", n, got)
		}
	}
}

// eightfold is 8 times n, the highest byte of the lowest eight first.
func eightfold(n int) []byte {
	all := new(big.Int).Mul(big.NewInt(8), big.NewInt(int64(n)))
	all.Mod(all, new(big.Int).Lsh(big.NewInt(1), 64))
	return all.FillBytes(make([]byte, 8))
}

func TestP61Lengths(t *testing.T) {
	for _, c := range []struct {
		aad, text int
		want      string
	}{
		{0, 0, "00000000000000000000000000000000"},
		{0, 16, "00000000000000000000000000000080"},
		{20, 60, "00000000000000a000000000000001e0"},
		{31, 32, "00000000000000f80000000000000100"},
		{1<<29 - 1, 1 << 29, "00000000fffffff80000000100000000"},
		{1<<31 - 1, 0, "00000003fffffff80000000000000000"},
		{0, 1<<31 - 1, "000000000000000000000003fffffff8"},
		{1 << 60, 1<<61 - 1, "8000000000000000fffffffffffffff8"},
		{1 << 61, 1<<61 + 1, "00000000000000000000000000000008"},
		{math.MaxInt, math.MinInt, "fffffffffffffff80000000000000000"},
		{-1, -2, "fffffffffffffff8fffffffffffffff0"},
	} {
		if got := ghash.Lengths(c.aad, c.text); hex.EncodeToString(got[:]) != c.want {
			t.Errorf("P6.1: Lengths(%d, %d) = %x, not %s", c.aad, c.text, got, c.want)
		}
	}
	l := []int{-1, 0, 1, 31, 32, 4096, 65535, 1 << 40, 0x0123456789abcdef, math.MaxInt}
	for _, aad := range l {
		for _, text := range l {
			want := [16]byte(append(eightfold(aad), eightfold(text)...))
			if got := ghash.Lengths(aad, text); got != want {
				t.Errorf("P6.1: Lengths(%d, %d) = %x, not %x", aad, text, got, want)
			}
		}
	}
}

func TestP62TheOtherWayRound(t *testing.T) {
	for _, a := range blocks() {
		for _, b := range blocks() {
			if ghash.Mul(a, b) != ghash.Mul(b, a) {
				t.Errorf("P6.2: %x times %x is another one the other way round", a, b)
			}
		}
	}
}

func TestP62OverSums(t *testing.T) {
	draw := drawn(4)
	l := append(blocks()[:8], [16]byte(draw(16)), [16]byte(draw(16)))
	for _, a := range l {
		for _, b := range l {
			for _, c := range l {
				if ghash.Mul(xor(a, b), c) != xor(ghash.Mul(a, c), ghash.Mul(b, c)) {
					t.Errorf("P6.2: (%x ^ %x) times %x", a, b, c)
				}
				if ghash.Mul(c, xor(a, b)) != xor(ghash.Mul(c, a), ghash.Mul(c, b)) {
					t.Errorf("P6.2: %x times (%x ^ %x)", c, a, b)
				}
			}
		}
	}
}

func TestP62One(t *testing.T) {
	l := blocks()
	for i := range 128 {
		l = append(l, alone(i))
	}
	for _, a := range l {
		if ghash.Mul(a, one()) != a || ghash.Mul(one(), a) != a {
			t.Errorf("P6.2: %x times one is not itself", a)
		}
	}
}

func TestR4NothingHandedInIsChanged(t *testing.T) {
	draw := drawn(5)
	a, b := [16]byte(draw(16)), [16]byte(draw(16))
	sameA, sameB := a, b
	for n := range 50 {
		whole := draw(n + 40)
		before := bytes.Clone(whole)
		first := ghash.Sum(a, whole[:n])
		if !bytes.Equal(whole, before) {
			t.Errorf("R4: %d bytes, or the room behind them, were changed", n)
		}
		for i := range whole[n:] { // the room behind has no say
			whole[n+i] ^= 255
		}
		if ghash.Sum(a, whole[:n]) != first {
			t.Errorf("R4: what stands behind %d bytes changed their sum", n)
		}
	}
	ghash.Mul(a, b)
	ghash.Sum(a, b[:])
	if a != sameA || b != sameB {
		t.Error("R4: a block was changed")
	}
}

// What came ahead is not to be seen.
func TestR5SameEachTime(t *testing.T) {
	draw := drawn(6)
	h, b := [16]byte(draw(16)), draw(37)
	sum, mul := ghash.Sum(h, b), ghash.Mul(h, full())
	for range 20 {
		x := [16]byte(draw(16))
		ghash.Sum(x, draw(33))
		ghash.Mul(x, h)
		if ghash.Sum(h, b) != sum || ghash.Mul(h, full()) != mul {
			t.Fatal("R5: the same call answers otherwise")
		}
	}
}

func TestExampleOfTheChapter(t *testing.T) {
	b := [16]byte{1, 2, 3, 15: 255}
	if ghash.Mul(b, [16]byte{128}) != b {
		t.Error("example 1")
	}
}
