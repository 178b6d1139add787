package ctr_test

import (
	"bytes"
	"encoding/hex"
	"math/big"
	"testing"

	"palfrey/aes"
	"palfrey/api"
	"palfrey/ctr"
)

// read reads bytes written in hex.
func read(t *testing.T, s string) []byte {
	t.Helper()
	b, e := hex.DecodeString(s)
	if e != nil {
		t.Fatal(e)
	}
	return b
}

// keys expands a key that may be one.
func keys(t *testing.T, key []byte) *aes.Keys {
	t.Helper()
	k, e := aes.Expand(key)
	if e != api.OK {
		t.Fatalf("Expand(%x): %d", key, e)
	}
	return k
}

// wiped is keys of that key, wiped.
func wiped(t *testing.T, key []byte) *aes.Keys {
	t.Helper()
	k := keys(t, key)
	k.Wipe()
	return k
}

// drawn makes bytes that look like chance, and are the same each time.
func drawn(seed uint64) func(n int) []byte {
	return func(n int) []byte {
		b := make([]byte, n)
		for i := range b {
			seed = seed*6364136223846793005 + 1442695040888963407
			b[i] = byte(seed >> 56)
		}
		return b
	}
}

// ivs are some whose count goes round, or goes on from one half to the other, and others.
func ivs() [][16]byte {
	draw := drawn(100)
	full := [16]byte(bytes.Repeat([]byte{255}, 16))
	l := [][16]byte{{}, {15: 1}, full, [16]byte(draw(16)), [16]byte(draw(16))}
	for low := byte(252); low < 255; low++ {
		end := full
		end[15] = low
		half := end
		half[7] = 7
		l = append(l, end, half, [16]byte{14: 255, 15: low}, [16]byte{12: 255, 13: 255, 14: 255, 15: low})
	}
	return l
}

// lengths are of no bytes, and of those about the ends of blocks.
func lengths() []int {
	return []int{0, 1, 2, 7, 14, 15, 16, 17, 30, 31, 32, 33, 47, 48, 49, 64, 65, 100}
}

// slow crypts as the chapter's words say, byte by byte, the counters as great numbers.
func slow(k *aes.Keys, iv [16]byte, b []byte) []byte {
	first, all := new(big.Int).SetBytes(iv[:]), new(big.Int).Lsh(big.NewInt(1), 128)
	var out []byte
	for i := range b {
		n := new(big.Int).Add(first, big.NewInt(int64(i/16)))
		n.Mod(n, all)
		block := k.Encrypt([16]byte(n.FillBytes(make([]byte, 16))))
		out = append(out, b[i]^block[i%16])
	}
	return out
}

// The standard's examples (SP 800-38A, F.5), and those of RFC 3686.
func TestP81OfTheStandards(t *testing.T) {
	const (
		short  = "2b7e151628aed2a6abf7158809cf4f3c"
		long   = "603deb1015ca71be2b73aef0857d77811f352c073b6108d72d9810a30914dff4"
		first  = "f0f1f2f3f4f5f6f7f8f9fafbfcfdfeff"
		text   = "6bc1bee22e409f96e93d7e117393172aae2d8a571e03ac9c9eb76fac45af8e5130c81c46a35ce411e5fbc1191a0a52eff69f2445df4f9b17ad2b417be66c3710"
		single = "53696e676c6520626c6f636b206d7367"
		counts = "000102030405060708090a0b0c0d0e0f101112131415161718191a1b1c1d1e1f20212223"
	)
	for _, c := range []struct{ key, iv, text, want string }{
		{short, first, text, "874d6191b620e3261bef6864990db6ce9806f66b7970fdff8617187bb9fffdff5ae4df3edbd5d35e5b4f09020db03eab1e031dda2fbe03d1792170a0f3009cee"},
		{long, first, text, "601ec313775789a5b7a7f504bbf3d228f443e3ca4d62b59aca84e990cacaf5c52b0930daa23de94ce87017ba2d84988ddfc9c58db67aada613c2dd08457941a6"},
		{"ae6852f8121067cc4bf7a5765577f39e", "00000030000000000000000000000001", single, "e4095d4fb7a7b3792d6175a3261311b8"},
		{"7e24067817fae0d743d6ce1f32539163", "006cb6dbc0543b59da48d90b00000001", counts[:64], "5104a106168a72d9790d41ee8edad388eb2e1efc46da57c8fce630df9141be28"},
		{"7691be035e5020a8ac6e618529f9a0dc", "00e0017b27777f3f4a1786f000000001", counts, "c1cf48a89f2ffdd9cf4652e9efdb72d74540a42bde6d7836d59a5ceaaef3105325b2072f"},
		{"776beff2851db06f4c8a0542c8696f6c6a81af1eec96b4d37fc1d689e6c1c104", "00000060db5672c97aa8f0b200000001", single, "145ad01dbf824ec7560863dc71e3e0c0"},
		{"f6d66d6bd52d59bb0796365879eff886c66dd51a5b6a99744b50590c87a23884", "00faac24c1585ef15a43d87500000001", counts[:64], "f05e231b3894612c49ee000b804eb2a9b8306b508f839d6a5530831d9344af1c"},
		{"ff7a617ce69148e4f1726e2f43581de2aa62d9f805532edff1eed687fb54153d", "001cc5b751a51d70a1c1114800000001", counts, "eb6c52821d0bbbf7ce7594462aca4faab407df866569fd07f48cc0b583d6071f1ec0e6b8"},
	} {
		k, iv, b := keys(t, read(t, c.key)), [16]byte(read(t, c.iv)), read(t, c.text)
		got := ctr.Crypt(k, iv, b)
		if hex.EncodeToString(got) != c.want {
			t.Errorf("P8.1: by %s, from %s on: %x, not %s", c.key, c.iv, got, c.want)
		}
		if back := ctr.Crypt(k, iv, got); !bytes.Equal(back, b) {
			t.Errorf("P8.3: by %s, from %s on, twice: %x, not %x", c.key, c.iv, back, b)
		}
		s := ctr.New(k, iv)
		var parts []byte
		for i := range b {
			parts = append(parts, s.Crypt(b[i:i+1])...)
		}
		if hex.EncodeToString(parts) != c.want {
			t.Errorf("P8.2: by %s, from %s on, byte by byte: %x, not %s", c.key, c.iv, parts, c.want)
		}
	}
}

func TestP81AgainstTheChaptersWords(t *testing.T) {
	draw := drawn(1)
	for _, long := range []int{16, 32} {
		k := keys(t, draw(long))
		for _, iv := range ivs() {
			for _, n := range lengths() {
				b := draw(n)
				if got, want := ctr.Crypt(k, iv, b), slow(k, iv, b); !bytes.Equal(got, want) {
					t.Fatalf("P8.1: Crypt of %x from %x on = %x, not %x", b, iv, got, want)
				}
			}
		}
	}
	k, iv, b := keys(t, draw(16)), [16]byte(draw(16)), draw(16*260+3) // beyond 256 counters
	iv[15] = 250
	if got, want := ctr.Crypt(k, iv, b), slow(k, iv, b); !bytes.Equal(got, want) {
		t.Errorf("P8.1: Crypt of %d bytes from %x on", len(b), iv)
	}
}

// Behind the greatest counter the next one is 0: all 128 bits go round, and what is carried reaches all of them.
func TestP81CounterGoesRound(t *testing.T) {
	draw := drawn(2)
	k := keys(t, draw(32))
	for many := range 17 { // that many bytes 255 at the end
		var iv, next [16]byte
		copy(iv[16-many:], bytes.Repeat([]byte{255}, many))
		if many < 16 {
			next[15-many] = 1
		}
		a, b := k.Encrypt(iv), k.Encrypt(next)
		want := append(a[:], b[:]...)
		for n := range 33 {
			if got := ctr.Crypt(k, iv, make([]byte, n)); !bytes.Equal(got, want[:n]) {
				t.Fatalf("P8.1: %d noughts from %x on: %x, not %x", n, iv, got, want[:n])
			}
			s := ctr.New(k, iv)
			if got := append(s.Crypt(make([]byte, n)), s.Crypt(make([]byte, 32-n))...); !bytes.Equal(got, want) {
				t.Fatalf("P8.2: noughts from %x on, cut at %d: %x, not %x", iv, n, got, want)
			}
		}
	}
}

func TestP81OfNothing(t *testing.T) {
	k := keys(t, make([]byte, 16))
	for _, b := range [][]byte{nil, {}, bytes.Repeat([]byte{255}, 40)[:0]} {
		if got := ctr.Crypt(k, [16]byte{1}, b); len(got) != 0 {
			t.Errorf("P8.1: Crypt of nothing = %x", got)
		}
		s := ctr.New(k, [16]byte{1})
		if got := s.Crypt(b); len(got) != 0 || s.At() != 0 {
			t.Errorf("P8.2: Crypt of nothing = %x, at %d", got, s.At())
		}
	}
}

// Of no keys the stream is noughts: what is crypted is what it was.
func TestP81KeysThatAreNone(t *testing.T) {
	draw := drawn(3)
	for _, k := range []*aes.Keys{nil, wiped(t, draw(16)), wiped(t, draw(32))} {
		for _, iv := range ivs() {
			for _, n := range lengths() {
				b := draw(n)
				if got := ctr.Crypt(k, iv, b); !bytes.Equal(got, b) {
					t.Errorf("P8.1: Crypt by no keys of %x = %x", b, got)
				}
				s := ctr.New(k, iv)
				got := append(s.Crypt(b[:n/3]), s.Crypt(b[n/3:])...)
				if !bytes.Equal(got, b) || s.At() != n {
					t.Errorf("P8.2: Crypt by no keys of %x = %x, at %d", b, got, s.At())
				}
			}
		}
	}
}

func TestP82CutAnywhere(t *testing.T) {
	draw := drawn(4)
	for _, long := range []int{16, 32} {
		k := keys(t, draw(long))
		for _, iv := range ivs()[:7] {
			b := draw(50)
			want := slow(k, iv, b)
			for i := range len(b) + 1 { // by two parts, and none ahead, between and behind
				s, at := ctr.New(k, iv), 0
				for _, part := range [][]byte{nil, b[:i], {}, nil, b[i:], {}} {
					got := s.Crypt(part)
					if !bytes.Equal(got, want[at:at+len(part)]) {
						t.Fatalf("P8.2: cut at %d, behind %d bytes: %x, not %x", i, at, got, want[at:at+len(part)])
					}
					at += len(part)
					if s.At() != at {
						t.Fatalf("P8.2: cut at %d: At = %d, not %d", i, s.At(), at)
					}
				}
			}
		}
	}
}

func TestP82PartsOfOneLength(t *testing.T) {
	draw := drawn(5)
	k, iv, b := keys(t, draw(16)), [16]byte(draw(16)), draw(100)
	want := slow(k, iv, b)
	for by := 1; by <= len(b); by++ {
		s := ctr.New(k, iv)
		if s.At() != 0 {
			t.Fatalf("P8.2: At of a new stream = %d", s.At())
		}
		for at := 0; at < len(b); at += by {
			end := min(at+by, len(b))
			if got := s.Crypt(b[at:end]); !bytes.Equal(got, want[at:end]) || s.At() != end {
				t.Fatalf("P8.2: by parts of %d, from %d on: %x, not %x; at %d", by, at, got, want[at:end], s.At())
			}
		}
	}
}

func TestP82PartsOfAllLengths(t *testing.T) {
	draw := drawn(6)
	for _, iv := range ivs() {
		k := keys(t, draw(32))
		s := ctr.New(k, iv)
		var whole, got []byte
		for range 40 {
			part := draw(int(draw(1)[0]) % 41)
			whole, got = append(whole, part...), append(got, s.Crypt(part)...)
			if s.At() != len(whole) {
				t.Fatalf("P8.2: At = %d, not %d", s.At(), len(whole))
			}
		}
		if want := ctr.Crypt(k, iv, whole); !bytes.Equal(got, want) {
			t.Fatalf("P8.2: %d bytes from %x on, part by part: %x, not %x", len(whole), iv, got, want)
		}
	}
}

func TestP82Nil(t *testing.T) {
	var s *ctr.Stream
	for range 2 {
		for _, b := range [][]byte{nil, {}, {1}, bytes.Repeat([]byte{7}, 40)} {
			if got := s.Crypt(b); len(got) != 0 {
				t.Errorf("P8.2: Crypt of nil = %x", got)
			}
			if s.At() != 0 {
				t.Errorf("P8.2: At of nil = %d", s.At())
			}
		}
	}
}

// A stream that New did not make is one of no keys.
func TestP82StreamUnmade(t *testing.T) {
	var s ctr.Stream
	b := bytes.Repeat([]byte{7}, 40)
	if got := s.Crypt(b); !bytes.Equal(got, b) || s.At() != 40 {
		t.Errorf("P8.2: Crypt of a zero Stream = %x, at %d", got, s.At())
	}
}

func TestP82StreamsAreApart(t *testing.T) {
	draw := drawn(7)
	k, other, iv := keys(t, draw(16)), keys(t, draw(32)), [16]byte(draw(16))
	one, two, three := ctr.New(k, iv), ctr.New(k, iv), ctr.New(other, iv)
	b := draw(90)
	var a, c, d []byte
	for i := range 30 {
		a = append(a, one.Crypt(b[3*i:3*i+3])...)
		c = append(c, two.Crypt(b[2*i:2*i+2])...)
		d = append(d, three.Crypt(b[i:i+1])...)
	}
	if !bytes.Equal(a, slow(k, iv, b)) || !bytes.Equal(c, slow(k, iv, b[:60])) || !bytes.Equal(d, slow(other, iv, b[:30])) {
		t.Error("P8.2: the streams are not apart")
	}
	if one.At() != 90 || two.At() != 60 || three.At() != 30 {
		t.Errorf("P8.2: the streams are at %d, %d, %d", one.At(), two.At(), three.At())
	}
}

func TestP83CryptTwice(t *testing.T) {
	draw := drawn(8)
	for _, k := range []*aes.Keys{nil, wiped(t, draw(16)), keys(t, draw(16)), keys(t, draw(32))} {
		for _, iv := range ivs() {
			for _, n := range lengths() {
				b := draw(n)
				if got := ctr.Crypt(k, iv, ctr.Crypt(k, iv, b)); !bytes.Equal(got, b) {
					t.Fatalf("P8.3: %x, crypted twice from %x on: %x", b, iv, got)
				}
				there, back := ctr.New(k, iv), ctr.New(k, iv)
				crypted := append(there.Crypt(b[:n/2]), there.Crypt(b[n/2:])...)
				if got := append(back.Crypt(crypted[:n/5]), back.Crypt(crypted[n/5:])...); !bytes.Equal(got, b) {
					t.Fatalf("P8.3: %x, crypted twice by streams from %x on: %x", b, iv, got)
				}
			}
		}
	}
}

func TestR4NothingHandedInIsChanged(t *testing.T) {
	draw := drawn(9)
	k, iv := keys(t, draw(16)), [16]byte(draw(16))
	sameKeys, sameIV := *k, iv
	for n := range 60 {
		whole := draw(n + 50)
		before := bytes.Clone(whole)
		first := ctr.Crypt(k, iv, whole[:n])
		s := ctr.New(k, iv)
		s.Crypt(whole[:n/2])
		s.Crypt(whole[n/2 : n])
		if !bytes.Equal(whole, before) {
			t.Errorf("R4: %d bytes, or the room behind them, were changed", n)
		}
		for i := range whole[n:] { // the room behind has no say
			whole[n+i] ^= 255
		}
		if !bytes.Equal(ctr.Crypt(k, iv, whole[:n]), first) {
			t.Errorf("R4: what stands behind %d bytes changed what comes of them", n)
		}
	}
	if *k != sameKeys || iv != sameIV {
		t.Error("R4: the keys or the IV were changed")
	}
}

// A stream goes on by the keys as they were when it was made.
func TestR4NothingHandedInIsKept(t *testing.T) {
	draw := drawn(10)
	for _, long := range []int{16, 32} {
		key := draw(long)
		for cut := range 35 {
			k, iv, b := keys(t, key), [16]byte(draw(16)), draw(50)
			want := slow(k, iv, b)
			s := ctr.New(k, iv)
			part := bytes.Clone(b[:cut])
			got := s.Crypt(part)
			clear(part)
			clear(iv[:])
			k.Wipe()
			got = append(got, s.Crypt(b[cut:])...)
			if !bytes.Equal(got, want) {
				t.Errorf("R4: a stream keeps the keys, the IV or the bytes that it was given: cut at %d: %x, not %x", cut, got, want)
			}
		}
	}
}

func TestR4WhatIsHandedOutIsNew(t *testing.T) {
	draw := drawn(11)
	for _, k := range []*aes.Keys{nil, keys(t, draw(16))} {
		for _, n := range []int{1, 15, 16, 17, 40} {
			iv, b := [16]byte(draw(16)), draw(n)
			before, want := bytes.Clone(b), slow(k, iv, append(bytes.Clone(b), b...))
			s := ctr.New(k, iv)
			one, two := ctr.Crypt(k, iv, b), s.Crypt(b)
			clear(one[:cap(one)])
			clear(two[:cap(two)])
			if !bytes.Equal(b, before) {
				t.Errorf("R4: what Crypt tells of %d bytes shares memory with them", n)
			}
			three := s.Crypt(b)
			clear(b)
			if !bytes.Equal(three, want[n:]) {
				t.Errorf("R4: what a stream tells of %d bytes hangs on what was done with its answers, or on the bytes later on", n)
			}
		}
	}
}

// What came ahead, by these keys or others, is not to be seen.
func TestR5SameEachTime(t *testing.T) {
	draw := drawn(12)
	k, iv, b := keys(t, draw(16)), [16]byte(draw(16)), draw(40)
	want := ctr.Crypt(k, iv, b)
	for range 20 {
		ctr.Crypt(keys(t, draw(32)), [16]byte(draw(16)), draw(33))
		ctr.New(k, iv).Crypt(draw(20))
		if !bytes.Equal(ctr.Crypt(k, iv, b), want) {
			t.Fatal("R5: the same call answers otherwise")
		}
	}
}

func TestExampleOfTheChapter(t *testing.T) {
	k, iv := keys(t, drawn(13)(16)), [16]byte{15: 9}
	a, b := k.Encrypt(iv), k.Encrypt([16]byte{15: 10})
	if got := ctr.Crypt(k, iv, make([]byte, 32)); !bytes.Equal(got, append(a[:], b[:]...)) {
		t.Errorf("example 1: %x", got)
	}
}
