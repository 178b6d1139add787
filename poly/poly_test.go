package poly_test

import (
	"bytes"
	"encoding/hex"
	"math/big"
	"slices"
	"strings"
	"testing"

	"palfrey/poly"
)

// read reads bytes written in hex.
func read(t *testing.T, s string) []byte {
	t.Helper()
	b, e := hex.DecodeString(s)
	if e != nil {
		t.Fatal(e)
	}
	return b
}

// drawn makes bytes that look like chance, and are the same each time.
func drawn(seed uint64) func(n int) []byte {
	return func(n int) []byte {
		b := make([]byte, n)
		for i := range b {
			seed = seed*6364136223846793005 + 1442695040888963407
			b[i] = byte(seed >> 56)
		}
		return b
	}
}

// key is a key of both halves.
func key(r, s [16]byte) [32]byte { return [32]byte(append(append([]byte{}, r[:]...), s[:]...)) }

func full() [16]byte { return [16]byte(bytes.Repeat([]byte{255}, 16)) }

// power is 2 to that power.
func power(n uint) *big.Int { return new(big.Int).Lsh(big.NewInt(1), n) }

// prime is 2^130 - 5.
func prime() *big.Int { return new(big.Int).Sub(power(130), big.NewInt(5)) }

// little is the number of bytes, the lowest one first.
func little(b []byte) *big.Int {
	b = bytes.Clone(b)
	slices.Reverse(b)
	return new(big.Int).SetBytes(b)
}

// sixteen is the lowest 16 bytes of a number, the lowest one first.
func sixteen(n *big.Int) [16]byte {
	var out [16]byte
	new(big.Int).Mod(n, power(128)).FillBytes(out[:])
	slices.Reverse(out[:])
	return out
}

// mask is what the standard clamps by.
func mask() *big.Int {
	n, _ := new(big.Int).SetString("0ffffffc0ffffffc0ffffffc0fffffff", 16)
	return n
}

// slow is the sum by the chapter's words, on numbers of any length.
func slow(key [32]byte, b []byte) [16]byte {
	r, sum := new(big.Int).And(little(key[:16]), mask()), new(big.Int)
	for len(b) > 0 {
		part := b[:min(16, len(b))]
		b = b[len(part):]
		sum.Add(sum, little(append(bytes.Clone(part), 1)))
		sum.Mul(sum, r)
		sum.Mod(sum, prime())
	}
	return sixteen(sum.Add(sum, little(key[16:])))
}

func TestP51Clamp(t *testing.T) {
	if got := poly.Clamp(full()); got != sixteen(mask()) {
		t.Errorf("P5.1: Clamp of all ones = %x", got)
	}
	if got := poly.Clamp([16]byte{}); got != [16]byte{} {
		t.Errorf("P5.1: Clamp of noughts = %x", got)
	}
	if got, want := poly.Clamp([16]byte(read(t, "85d6be7857556d337f4452fe42d506a8"))), "85d6be0854556d037c44520e40d50608"; hex.EncodeToString(got[:]) != want {
		t.Errorf("P5.1: Clamp = %x, not %s", got, want)
	}
	for i := range 128 { // each bit alone stays, or goes
		var r, want [16]byte
		r[i/8] = 1 << (i % 8)
		if place := i / 8; !(place%4 == 3 && r[place] >= 16) && !(place%4 == 0 && place > 0 && r[place] < 4) {
			want = r
		}
		if got := poly.Clamp(r); got != want {
			t.Errorf("P5.1: Clamp(%x) = %x, not %x", r, got, want)
		}
	}
	draw := drawn(1)
	for range 200 {
		r := [16]byte(draw(16))
		got := poly.Clamp(r)
		if got != sixteen(new(big.Int).And(little(r[:]), mask())) || poly.Clamp(got) != got {
			t.Errorf("P5.1: Clamp(%x) = %x", r, got)
		}
	}
}

const (
	jabber = "'Twas brillig, and the slithy toves\nDid gyre and gimble in the wabe:\nAll mimsy were the borogoves,\nAnd the mome raths outgrabe."
	notice = "Any submission to the IETF intended by the Contributor for publication as all or part of an IETF Internet-Draft or RFC and any statement made within the context of an IETF activity is considered an \"IETF Contribution\". Such statements include oral statements in IETF sessions, as well as written and electronic communications made at any time or place, which are addressed to"
)

// The standard's examples: of its section 2.5, and all of its appendix A.3.
func TestP51SumOfTheStandard(t *testing.T) {
	noughts, ones := strings.Repeat("00", 16), strings.Repeat("ff", 16)
	one, two := "01"+noughts[2:], "02"+noughts[2:]
	mixed := "01000000000000000400000000000000"
	half := "36e5f6b5c5e06070f0efca96227a863e"
	carried := "e33594d7505e43b900000000000000003394d7505e4379cd01000000000000000000000000000000000000000000000001000000000000000000000000000000"
	for _, c := range []struct{ key, text, want string }{
		{"85d6be7857556d337f4452fe42d506a80103808afb0db2fd4abff6af4149f51b", hex.EncodeToString([]byte("Cryptographic Forum Research Group")), "a8061dc1305136c6c22b8baf0c0127a9"},
		{noughts + noughts, strings.Repeat(noughts, 4), noughts},
		{noughts + half, hex.EncodeToString([]byte(notice)), half},
		{half + noughts, hex.EncodeToString([]byte(notice)), "f3477e7cd95417af89a6b8794c310cf0"},
		{"1c9240a5eb55d38af333888604f6b5f0473917c1402b80099dca5cbc207075c0", hex.EncodeToString([]byte(jabber)), "4541669a7eaaee61e708dc7cbcc5eb62"},
		{two + noughts, ones, "03" + noughts[2:]},
		{two + ones, two, "03" + noughts[2:]},
		{one + noughts, ones + "f0" + ones[2:] + "11" + noughts[2:], "05" + noughts[2:]},
		{one + noughts, ones + "fb" + strings.Repeat("fe", 15) + strings.Repeat("01", 16), noughts},
		{two + noughts, "fd" + ones[2:], "fa" + ones[2:]},
		{mixed + noughts, carried, "14000000000000005500000000000000"},
		{mixed + noughts, carried[:96], "13" + noughts[2:]},
	} {
		k, text := [32]byte(read(t, c.key)), read(t, c.text)
		if got := poly.Sum(k, text); hex.EncodeToString(got[:]) != c.want {
			t.Errorf("P5.1: Sum(%s, %s) = %x, not %s", c.key, c.text, got, c.want)
		}
		s := poly.New(k)
		for i := range text {
			s.Write(text[i : i+1])
		}
		if got := s.Sum(); hex.EncodeToString(got[:]) != c.want {
			t.Errorf("P5.2: byte by byte, Sum(%s, %s) = %x, not %s", c.key, c.text, got, c.want)
		}
	}
}

func TestP51SumOfNothing(t *testing.T) {
	draw := drawn(2)
	for range 20 {
		k := [32]byte(draw(32))
		for _, b := range [][]byte{nil, {}, make([]byte, 0, 40)} {
			if got := poly.Sum(k, b); got != [16]byte(k[16:]) {
				t.Errorf("P5.1: Sum(%x, nothing) = %x", k, got)
			}
		}
		if got := poly.New(k).Sum(); got != [16]byte(k[16:]) {
			t.Errorf("P5.2: the sum of a new state by %x = %x", k, got)
		}
	}
}

// keys are those whose numbers are at the edges, and others.
func keys() [][32]byte {
	var none [16]byte
	l := [][32]byte{{}, key(full(), full()), key(full(), none), key([16]byte{1}, full()), key([16]byte{15: 15}, none), key([16]byte{8: 4}, full()), key([16]byte{7: 15, 8: 252}, none)}
	draw := drawn(3)
	for range 20 {
		l = append(l, [32]byte(draw(32)), key(full(), [16]byte(draw(16))))
	}
	return l
}

func TestP51AgainstTheChaptersWords(t *testing.T) {
	draw := drawn(4)
	for _, k := range keys() {
		for n := range 100 { // about the end of 16 bytes, and of 32, and so on
			for _, b := range [][]byte{draw(n), make([]byte, n), bytes.Repeat([]byte{255}, n)} {
				if got, want := poly.Sum(k, b), slow(k, b); got != want {
					t.Fatalf("P5.1: Sum(%x, %x) = %x, not %x", k, b, got, want)
				}
			}
		}
		b := append(bytes.Repeat([]byte{255}, 4096), draw(4097)...)
		if got, want := poly.Sum(k, b), slow(k, b); got != want {
			t.Fatalf("P5.1: Sum by %x of %d bytes = %x, not %x", k, len(b), got, want)
		}
	}
}

// Noughts at the end of a text are not lost, whether they make its last part whole or not.
func TestP51NoughtsAtTheEndCount(t *testing.T) {
	k := [32]byte(drawn(5)(32))
	seen := map[[16]byte]int{}
	for n := range 100 {
		seen[poly.Sum(k, make([]byte, n))]++
	}
	if len(seen) != 100 {
		t.Errorf("P5.1: of 100 texts of noughts there came %d sums", len(seen))
	}
}

// By r = 1 the sum is that of the parts: three whole ones are 3 * 2^128 and their bytes, so the last one is chosen
// to bring it to each number about 2^130 - 5, and about 2^130.
func TestP51SumsAboutThePrime(t *testing.T) {
	for _, s := range [][16]byte{{}, {1}, full(), [16]byte(drawn(6)(16))} {
		for more := int64(-8); more <= 16; more++ {
			last := new(big.Int).Add(new(big.Int).Sub(prime(), new(big.Int).Mul(big.NewInt(3), power(128))), big.NewInt(more))
			first := make([]byte, 32)
			if last.Cmp(power(128)) >= 0 { // more than a part holds: the first one takes some of it
				first[0] = 16
				last.Sub(last, big.NewInt(16))
			}
			end := sixteen(last)
			want := big.NewInt(more) // at the prime, and above it, it is taken off
			if more < 0 {
				want.Add(want, prime())
			}
			k, b := key([16]byte{1}, s), append(first, end[:]...)
			if got, want := poly.Sum(k, b), sixteen(want.Add(want, little(s[:]))); got != want {
				t.Errorf("P5.1: the sum of 2^130 - 5 and %d, by s = %x, is %x, not %x", more, s, got, want)
			}
		}
	}
}

// last is the part that brings the sum of b so far, by r, to that number modulo the prime; nil if there is none.
func last(k [32]byte, b []byte, to *big.Int) []byte {
	r := new(big.Int).And(little(k[:16]), mask())
	back := new(big.Int).ModInverse(r, prime())
	sum := new(big.Int)
	for i := 0; i < len(b); i += 16 {
		sum.Mul(sum.Add(sum, little(append(bytes.Clone(b[i:i+16]), 1))), r)
		sum.Mod(sum, prime())
	}
	part := new(big.Int).Sub(new(big.Int).Mul(to, back), sum)
	part.Mod(part, prime())
	if part.Cmp(power(128)) < 0 || part.Cmp(power(129)) >= 0 { // of a whole part the bit 128 is the highest
		return nil
	}
	end := sixteen(part)
	return end[:]
}

// By great r as well, sums come to the numbers next to 0 and next to the prime.
func TestP51SumsBroughtAboutThePrime(t *testing.T) {
	draw := drawn(7)
	found := 0
	for range 200 {
		r := full()
		copy(r[:], draw(14))
		k, b := key(r, [16]byte(draw(16))), draw(48)
		for more := int64(-6); more <= 6; more++ {
			to := new(big.Int).Mod(big.NewInt(more), prime())
			end := last(k, b, to)
			if end == nil {
				continue
			}
			found++
			want := sixteen(new(big.Int).Add(to, little(k[16:])))
			if got := poly.Sum(k, append(bytes.Clone(b), end...)); got != want {
				t.Errorf("P5.1: by %x a sum of %d is told as %x, not %x", k, more, got, want)
			}
		}
	}
	if found < 200 {
		t.Errorf("%d sums were brought about the prime", found)
	}
}

// The sum and s are added modulo 2^128.
func TestP51SecondHalfGoesRound(t *testing.T) {
	b := []byte("some bytes, and some more of them")
	for _, r := range [][16]byte{{1}, {5}, full()} {
		sum := little(bytesOf(poly.Sum(key(r, [16]byte{}), b)))
		for _, s := range [][16]byte{{1}, {15: 128}, full(), sixteen(new(big.Int).Sub(power(128), sum)), sixteen(new(big.Int).Sub(power(128), new(big.Int).Add(sum, big.NewInt(1))))} {
			want := sixteen(new(big.Int).Add(sum, little(s[:])))
			if got := poly.Sum(key(r, s), b); got != want {
				t.Errorf("P5.1: by r = %x and s = %x: %x, not %x", r, s, got, want)
			}
		}
	}
}

func bytesOf(b [16]byte) []byte { return b[:] }

// The bits that are clamped have no say.
func TestP51KeyIsClamped(t *testing.T) {
	draw := drawn(8)
	for range 50 {
		r, s, b := [16]byte(draw(16)), [16]byte(draw(16)), draw(50)
		if poly.Sum(key(r, s), b) != poly.Sum(key(poly.Clamp(r), s), b) {
			t.Errorf("P5.1: by r = %x the sum is another one than by it clamped", r)
		}
	}
}

func TestP52PartByPart(t *testing.T) {
	draw := drawn(9)
	for _, n := range []int{0, 1, 15, 16, 17, 31, 32, 33, 47, 48, 49, 70} {
		k, b := [32]byte(draw(32)), draw(n)
		want := slow(k, b)
		for by := 1; by <= n+1; by++ { // by parts of one length
			s := poly.New(k)
			for i := 0; i < n; i += by {
				s.Write(b[i:min(i+by, n)])
			}
			if got := s.Sum(); got != want {
				t.Errorf("P5.2: %d bytes by parts of %d: %x, not %x", n, by, got, want)
			}
		}
		for i := range n + 1 { // by three parts
			for j := i; j <= n; j++ {
				s := poly.New(k)
				s.Write(b[:i])
				s.Write(b[i:j])
				s.Write(b[j:])
				if got := s.Sum(); got != want {
					t.Fatalf("P5.2: %d bytes, cut at %d and %d: %x, not %x", n, i, j, got, want)
				}
			}
		}
	}
}

// A sum may be asked more than once, and what is written goes on behind it.
func TestP52SumAndOn(t *testing.T) {
	draw := drawn(10)
	for _, k := range [][32]byte{[32]byte(draw(32)), key(full(), full())} {
		s := poly.New(k)
		var whole []byte
		for n := range 70 {
			part := draw(n)
			s.Write(part)
			whole = append(whole, part...)
			want := slow(k, whole)
			for range 3 {
				if got := s.Sum(); got != want {
					t.Fatalf("P5.2: behind a part of %d bytes, %d in all: %x, not %x", n, len(whole), got, want)
				}
			}
			s.Write(nil)
			s.Write([]byte{})
			if got := s.Sum(); got != want {
				t.Fatalf("P5.2: no bytes, written behind %d, changed the sum", len(whole))
			}
		}
	}
}

func TestP52Nil(t *testing.T) {
	var s *poly.State
	for range 2 {
		if got := s.Sum(); got != [16]byte{} {
			t.Errorf("P5.2: Sum of nil = %x", got)
		}
		s.Write(nil)
		s.Write([]byte("some bytes, more than sixteen of them"))
	}
	if s != nil {
		t.Error("P5.2: nil is not nil any more")
	}
}

// A state that New did not make has a key of noughts.
func TestP52StateUnmade(t *testing.T) {
	var s poly.State
	s.Write([]byte("some bytes, more than sixteen of them"))
	if got := s.Sum(); got != [16]byte{} {
		t.Errorf("P5.2: Sum of a zero State = %x", got)
	}
}

func TestP52StatesAreApart(t *testing.T) {
	draw := drawn(11)
	one, two := [32]byte(draw(32)), [32]byte(draw(32))
	a, b, same := poly.New(one), poly.New(two), poly.New(one)
	var wholeA, wholeB []byte
	for n := range 40 {
		x, y := draw(n), draw(7)
		a.Write(x)
		b.Write(y)
		a.Sum()
		wholeA, wholeB = append(wholeA, x...), append(wholeB, y...)
	}
	c := *a // a copy goes its own way
	c.Write([]byte("more, beyond a part's end"))
	if a.Sum() != slow(one, wholeA) || b.Sum() != slow(two, wholeB) || same.Sum() != [16]byte(one[16:]) {
		t.Error("P5.2: the states are not apart")
	}
	if c.Sum() != slow(one, append(bytes.Clone(wholeA), "more, beyond a part's end"...)) {
		t.Error("P5.2: a copy does not go on")
	}
}

func TestP53FirstHalfNought(t *testing.T) {
	draw := drawn(12)
	gone := [16]byte{3: 240, 4: 3, 7: 240, 8: 3, 11: 240, 12: 3, 15: 240} // nought when it is clamped
	for n := range 100 {
		s, b := [16]byte(draw(16)), draw(n)
		for _, r := range [][16]byte{{}, gone} {
			if got := poly.Sum(key(r, s), b); got != s {
				t.Errorf("P5.3: by r = %x the sum of %d bytes is %x, not %x", r, n, got, s)
			}
			w := poly.New(key(r, s))
			w.Write(b[:n/3])
			w.Write(b[n/3:])
			if got := w.Sum(); got != s {
				t.Errorf("P5.3: by r = %x the sum of %d bytes, part by part, is %x, not %x", r, n, got, s)
			}
		}
	}
}

func TestR4NothingHandedInIsChanged(t *testing.T) {
	draw := drawn(13)
	k, r := [32]byte(draw(32)), full()
	same := k
	for n := range 70 {
		whole := draw(n + 50)
		before := bytes.Clone(whole)
		poly.Sum(k, whole[:n])
		s := poly.New(k)
		s.Write(whole[:n/2])
		s.Sum()
		s.Write(whole[n/2 : n])
		s.Sum()
		if !bytes.Equal(whole, before) {
			t.Errorf("R4: %d bytes, or the room behind them, were changed", n)
		}
	}
	poly.Clamp(r)
	if k != same || r != full() {
		t.Error("R4: the key was changed")
	}
}

func TestR4NothingHandedInIsKept(t *testing.T) {
	draw := drawn(14)
	for n := range 70 {
		k, b := [32]byte(draw(32)), draw(n)
		want := slow(k, b)
		s := poly.New(k)
		clear(k[:])
		s.Write(b)
		clear(b)
		if got := s.Sum(); got != want {
			t.Errorf("R4: a state keeps the key, or the %d bytes, that it was given", n)
		}
	}
}

// What came ahead, by this key or another one, is not to be seen.
func TestR5SameEachTime(t *testing.T) {
	draw := drawn(15)
	k, b := [32]byte(draw(32)), draw(50)
	want := poly.Sum(k, b)
	for range 20 {
		poly.Sum([32]byte(draw(32)), draw(33))
		poly.New(k).Write(draw(20))
		if poly.Sum(k, b) != want {
			t.Fatal("R5: the same call answers otherwise")
		}
	}
}

func TestExampleOfTheChapter(t *testing.T) {
	s := [16]byte{1, 2, 3, 15: 255}
	if poly.Sum(key(full(), s), nil) != s {
		t.Error("example 1")
	}
}
