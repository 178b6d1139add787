package sha_test

import (
	"bytes"
	"encoding/hex"
	"math"
	"math/big"
	"testing"

	"palfrey/sha"
)

// message is n bytes, different for each n.
func message(n int) []byte {
	b := make([]byte, n)
	for i := range b {
		b[i] = byte(31*i + 7*n + 1)
	}
	return b
}

// guarded is a message with bytes in the spare room behind its end, which no call may change.
func guarded(n int) ([]byte, func() bool) {
	whole := append(message(n), bytes.Repeat([]byte{0xa5}, 200)...)
	before := bytes.Clone(whole)
	return whole[:n], func() bool { return bytes.Equal(whole, before) }
}

func told(sum [32]byte) string { return hex.EncodeToString(sum[:]) }

const emptySum = "e3b0c44298fc1c149afbf4c8996fb92427ae41e4649b934ca495991b7852b855"

// root is the first 32 bits behind the point of p's root: of the second degree, or of the third one.
func root(p int64, degree uint) uint32 {
	n := new(big.Int).Lsh(big.NewInt(p), 32*degree)
	low, high := big.NewInt(0), new(big.Int).Lsh(big.NewInt(1), 48)
	for {
		middle := new(big.Int).Rsh(new(big.Int).Add(low, high), 1)
		if middle.Cmp(low) == 0 {
			return uint32(low.Uint64())
		}
		if new(big.Int).Exp(middle, big.NewInt(int64(degree)), nil).Cmp(n) <= 0 {
			low = middle
		} else {
			high = middle
		}
	}
}

// The standard's first state: the square roots of the first eight primes.
func TestP21Start(t *testing.T) {
	for i, p := range []int64{2, 3, 5, 7, 11, 13, 17, 19} {
		if got, want := sha.Start()[i], root(p, 2); got != want {
			t.Errorf("P2.1: Start()[%d] = %#x, not %#x", i, got, want)
		}
	}
}

func TestP21Block(t *testing.T) {
	var full, count, abc [64]byte
	for i := range 64 {
		full[i], count[i] = 255, byte(i)
	}
	copy(abc[:], "abc\x80")
	abc[63] = 24
	const m = math.MaxUint32
	for _, c := range []struct {
		h    [8]uint32
		b    [64]byte
		want [8]uint32
	}{
		{[8]uint32{}, [64]byte{}, [8]uint32{0x7ca51614, 0x425c3ba8, 0xce54dd2f, 0xc2020ae7, 0xb6e574d1, 0x98136d0f, 0xae7e26cc, 0xbf0be7a6}},
		{[8]uint32{m, m, m, m, m, m, m, m}, full, [8]uint32{0x0598127a, 0xaf11706e, 0x77401fff, 0xd730c549, 0x0b84c867, 0xa98c6ca3, 0xd7f3c0f9, 0x06a78b79}},
		{[8]uint32{1, 2, 3, 4, 5, 6, 7, 8}, count, [8]uint32{0xd983df8e, 0x621f4578, 0x1f917871, 0x0bdcc9b3, 0x3044782b, 0xa13edb77, 0xfba54b2c, 0xd168eed7}},
		{sha.Start(), abc, [8]uint32{0xba7816bf, 0x8f01cfea, 0x414140de, 0x5dae2223, 0xb00361a3, 0x96177a9c, 0xb410ff61, 0xf20015ad}},
	} {
		h, b := c.h, c.b
		if got := sha.Block(h, b); got != c.want {
			t.Errorf("P2.1: Block(%x, %x) = %x, not %x", c.h, c.b, got, c.want)
		}
		if h != c.h || b != c.b {
			t.Error("R4: Block changed its arguments")
		}
	}
}

// padded is the padding, a nought at a time.
func padded(n int) []byte {
	p := []byte{128}
	for (n%64+len(p))%64 != 56 {
		p = append(p, 0)
	}
	long := uint64(n) * 8
	for i := 7; i >= 0; i-- {
		p = append(p, byte(long>>(8*i)))
	}
	return p
}

func TestP21Pad(t *testing.T) {
	for _, n := range []int{-1, -64, -55, math.MinInt} {
		if p := sha.Pad(n); len(p) != 0 {
			t.Errorf("P2.1: Pad(%d) = %v", n, p)
		}
	}
	for n, long := range map[int]int{0: 64, 1: 63, 54: 10, 55: 9, 56: 72, 57: 71, 63: 65, 64: 64, 119: 9, 120: 72, 128: 64} {
		if p := sha.Pad(n); len(p) != long {
			t.Errorf("P2.1: Pad(%d) has %d bytes, not %d", n, len(p), long)
		}
	}
	l := []int{1<<29 - 1, 1 << 29, 1<<31 - 1, 1 << 32, 1 << 61, math.MaxInt - 8, math.MaxInt - 7, math.MaxInt - 1, math.MaxInt}
	for n := range 300 {
		l = append(l, n)
	}
	for _, n := range l {
		if got, want := sha.Pad(n), padded(n); !bytes.Equal(got, want) {
			t.Errorf("P2.1: Pad(%d) = %v, not %v", n, got, want)
		}
	}
}

func TestP21Out(t *testing.T) {
	h := [8]uint32{0x01020304, 0x05060708, 0x090a0b0c, 0x0d0e0f10, 0, math.MaxUint32, 0x80000000, 1}
	want := [32]byte{1, 2, 3, 4, 5, 6, 7, 8, 9, 10, 11, 12, 13, 14, 15, 16, 0, 0, 0, 0, 255, 255, 255, 255, 128, 0, 0, 0, 0, 0, 0, 1}
	if got := sha.Out(h); got != want {
		t.Errorf("P2.1: Out = %v, not %v", got, want)
	}
}

func TestP21SumOfTexts(t *testing.T) {
	for text, want := range map[string]string{
		"":    emptySum,
		"abc": "ba7816bf8f01cfea414140de5dae2223b00361a396177a9cb410ff61f20015ad",
		"abcdbcdecdefdefgefghfghighijhijkijkljklmklmnlmnomnopnopq":                                                         "248d6a61d20638b8e5c026930c3e6039a33ce45964ff2167f6ecedd419db06c1",
		"abcdefghbcdefghicdefghijdefghijkefghijklfghijklmghijklmnhijklmnoijklmnopjklmnopqklmnopqrlmnopqrsmnopqrstnopqrstu": "cf5b16a778af8380036ce59e7b0492370b249b11e8f07a51afac45037afee9d1",
	} {
		if got := told(sha.Sum([]byte(text))); got != want {
			t.Errorf("P2.1: Sum(%q) = %s, not %s", text, got, want)
		}
	}
	if got := told(sha.Sum(nil)); got != emptySum {
		t.Errorf("P2.1: Sum(nil) = %s", got)
	}
	if got := told(sha.Sum(bytes.Repeat([]byte{'a'}, 1000000))); got != "cdc76e5c9914fb9281a1c7e284d73e67f1809a48a497200e046d39ccc7112cd0" {
		t.Errorf("P2.1: Sum of a million bytes = %s", got)
	}
	if got := sha.Sum([]byte("abc")); !bytes.Equal(got[:4], []byte{186, 120, 22, 191}) {
		t.Errorf("example 1: %v", got[:4])
	}
}

func TestP21SumAboutABlocksEnd(t *testing.T) {
	for n, want := range map[int]string{
		1:    "beead77994cf573341ec17b58bbf7eb34d2711c993c1d976b128b3188dc1829a",
		54:   "340c7e618310926026c2f19c5a3a29259ed3bf9f2e458777c472a7c7ec173104",
		55:   "2390a4095e89b748bb141c3978bc7a643a29b3a4f8dfad31ef7907cb5d7c0886",
		56:   "872304bdfee890d2bf3f2ab17d2f1750e30442d0d83b8d8f61ad1e9c8dd579d3",
		57:   "820a527990d7f0c1156c4224e5d680f1c475ac6367d057ae3361f03b3d3a85fd",
		63:   "1298ec2c9f20f1128bad04345247e219f5dd20e3dfd8de94f0cfb363baf13431",
		64:   "d58c90a7e23af7c4c4d458d0437ec6d5a355c1b5728e3f467d5014ec13f3440b",
		65:   "2419df12dd6edd4c5f5dc3023347b5a8ab1038098ae62e3cdfd608e0f7051373",
		119:  "87b9f9346669e938c67d9311e7a7d459e6ee6ded9bea507dcde51e6f3742a9ed",
		120:  "b37166dff9a90c46458ce9f8d02c80717f38a84f77b42e15acecc9360e326405",
		127:  "4bd076c2ad2deae5ec8915ca3212a229ebb6b22462f61377c2a76870fe8fd363",
		128:  "ad56b8866cb8127a7ca6c3fc77cb39f6e51b0e5f921e274dfdac76413a73caef",
		129:  "d83048ac928ca6a8d4abeda4b7467828a35ef46e2ada56f022c607d7eb5751c2",
		1000: "4c033e043f1c45ed2e87a7bfcd58932fa6e8330078f8574044d0a4825dd469a4",
	} {
		if got := told(sha.Sum(message(n))); got != want {
			t.Errorf("P2.1: Sum of %d bytes = %s, not %s", n, got, want)
		}
	}
	// The sums of 0 to 300 bytes, one behind the other, have a sum that is known.
	var all []byte
	for n := range 301 {
		sum := sha.Sum(message(n))
		all = append(all, sum[:]...)
	}
	if got := told(sha.Sum(all)); got != "ee9d53c9f0fed51134dc1a5d4dd07976e374673f51b14058bff471b7042206da" {
		t.Errorf("P2.1: the sum of all sums = %s", got)
	}
}

// The sum is what the chapter's words make of Start, Pad, Block and Out.
func TestP21SumByItsParts(t *testing.T) {
	for n := range 200 {
		b := append(message(n), sha.Pad(n)...)
		if len(b)%64 != 0 {
			t.Fatalf("P2.1: %d bytes, padded, have %d", n, len(b))
		}
		h := sha.Start()
		for i := 0; i < len(b); i += 64 {
			h = sha.Block(h, [64]byte(b[i:]))
		}
		if sha.Out(h) != sha.Sum(message(n)) {
			t.Errorf("P2.1: the sum of %d bytes is not that of its parts", n)
		}
	}
}

func TestP22State(t *testing.T) {
	s := sha.New()
	if s == nil || s.Len() != 0 || told(s.Sum()) != emptySum {
		t.Fatal("P2.2: New is not an empty message")
	}
	s.Write(nil)
	s.Write([]byte{})
	if s.Len() != 0 || told(s.Sum()) != emptySum {
		t.Error("P2.2: no bytes, written, changed it")
	}
	var whole []byte
	for n := range 150 { // parts of all lengths, and a sum between each two
		s.Write(message(n))
		whole = append(whole, message(n)...)
		for range 2 {
			if s.Sum() != sha.Sum(whole) || s.Len() != len(whole) {
				t.Fatalf("P2.2: behind a part of %d bytes, %d in all: %d", n, len(whole), s.Len())
			}
		}
	}
}

func TestP22StateOfNil(t *testing.T) {
	var s *sha.State
	s.Write([]byte("abc"))
	s.Write(nil)
	if s.Len() != 0 {
		t.Errorf("P2.2: Len of nil = %d", s.Len())
	}
	if got := told(s.Sum()); got != emptySum {
		t.Errorf("P2.2: Sum of nil = %s", got)
	}
}

// A state that New did not make is an empty message too.
func TestP22StateUnmade(t *testing.T) {
	var s sha.State
	if s.Len() != 0 || told(s.Sum()) != emptySum {
		t.Error("P2.2: a zero State is not empty")
	}
	s.Write(nil)
	s.Write([]byte("ab"))
	s.Write([]byte("c"))
	if s.Len() != 3 || s.Sum() != sha.Sum([]byte("abc")) {
		t.Error("P2.2: a zero State does not go on")
	}
}

func TestP22StatesAreApart(t *testing.T) {
	a, b := sha.New(), sha.New()
	for n := range 70 {
		a.Write([]byte{byte(n)})
		b.Write([]byte{byte(n), 1})
	}
	a.Sum()
	c := *a // a copy goes its own way
	c.Write([]byte("more"))
	var wholeA, wholeB []byte
	for n := range 70 {
		wholeA = append(wholeA, byte(n))
		wholeB = append(wholeB, byte(n), 1)
	}
	if a.Sum() != sha.Sum(wholeA) || b.Sum() != sha.Sum(wholeB) || a.Len() != 70 || b.Len() != 140 {
		t.Error("P2.2: two states are not apart")
	}
	if c.Sum() != sha.Sum(append(wholeA, "more"...)) {
		t.Error("P2.2: a copy does not go on")
	}
}

func TestP23PartByPart(t *testing.T) {
	for _, n := range []int{0, 1, 55, 56, 63, 64, 65, 127, 128, 129, 200} {
		whole := message(n)
		want := sha.Sum(whole)
		for step := 1; step <= n+1; step++ { // by parts of one length
			s := sha.New()
			for i := 0; i < n; i += step {
				s.Write(whole[i:min(i+step, n)])
			}
			if s.Sum() != want || s.Len() != n {
				t.Errorf("P2.3: %d bytes by parts of %d", n, step)
			}
		}
		for i := range n + 1 { // by three parts
			for j := i; j <= n; j++ {
				s := sha.New()
				s.Write(whole[:i])
				s.Write(whole[i:j])
				s.Write(whole[j:])
				if s.Sum() != want || s.Len() != n {
					t.Fatalf("P2.3: %d bytes, cut at %d and %d", n, i, j)
				}
			}
		}
	}
}

func TestR4NothingHandedInIsChanged(t *testing.T) {
	for n := range 140 {
		b, same := guarded(n)
		sha.Sum(b)
		s := sha.New()
		s.Write(b[:n/2])
		s.Sum()
		s.Write(b[n/2:])
		s.Sum()
		if !same() {
			t.Errorf("R4: a message of %d bytes, or the room behind it, was changed", n)
		}
	}
}

func TestR4NothingHandedInIsKept(t *testing.T) {
	for n := range 140 {
		b := message(n)
		s := sha.New()
		s.Write(b)
		clear(b)
		if s.Sum() != sha.Sum(message(n)) {
			t.Errorf("R4: a state keeps the %d bytes that it was given", n)
		}
	}
}

func TestR4WhatIsHandedOutIsNew(t *testing.T) {
	p := sha.Pad(3)
	clear(p[:cap(p)])
	h := sha.Start()
	h[0] = 0
	if !bytes.Equal(sha.Pad(3), padded(3)) || sha.Start()[0] != root(2, 2) {
		t.Error("R4: what was handed out is shared")
	}
}
