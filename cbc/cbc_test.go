package cbc_test

import (
	"bytes"
	"encoding/hex"
	"math"
	"testing"

	"palfrey/aes"
	"palfrey/api"
	"palfrey/cbc"
)

// read reads bytes written in hex.
func read(t *testing.T, s string) []byte {
	t.Helper()
	b, e := hex.DecodeString(s)
	if e != nil {
		t.Fatal(e)
	}
	return b
}

// keys expands a key that may be one.
func keys(t *testing.T, key []byte) *aes.Keys {
	t.Helper()
	k, e := aes.Expand(key)
	if e != api.OK {
		t.Fatalf("Expand(%x): %d", key, e)
	}
	return k
}

// none are keys that are none: nil, and wiped ones of both lengths.
func none(t *testing.T) []*aes.Keys {
	t.Helper()
	short, long := keys(t, make([]byte, 16)), keys(t, make([]byte, 32))
	short.Wipe()
	long.Wipe()
	return []*aes.Keys{nil, short, long}
}

// drawn makes bytes that look like chance, and are the same each time.
func drawn(seed uint64) func(n int) []byte {
	return func(n int) []byte {
		b := make([]byte, n)
		for i := range b {
			seed = seed*6364136223846793005 + 1442695040888963407
			b[i] = byte(seed >> 56)
		}
		return b
	}
}

// ends is b with n bytes of that number behind.
func ends(b []byte, n int, each byte) []byte {
	return append(bytes.Clone(b), bytes.Repeat([]byte{each}, n)...)
}

// slowPad is the padding behind n bytes, by the chapter's words: looked for from one byte on.
func slowPad(n int) []byte {
	for many := 1; n >= 0; many++ {
		if (n%16+many)%16 == 0 {
			return bytes.Repeat([]byte{byte(many)}, many)
		}
	}
	return nil
}

// raw enciphers whole blocks, without a padding: each byte put to the one 16 places ahead.
func raw(k *aes.Keys, iv [16]byte, b []byte) []byte {
	out := bytes.Clone(iv[:])
	for i := 0; i < len(b); i += 16 {
		var block [16]byte
		for j := range block {
			block[j] = b[i+j] ^ out[i+j]
		}
		block = k.Encrypt(block)
		out = append(out, block[:]...)
	}
	return out[16:]
}

// slow seals as the chapter's words say.
func slow(k *aes.Keys, iv [16]byte, b []byte) []byte {
	return raw(k, iv, append(bytes.Clone(b), slowPad(len(b))...))
}

// shut looks whether what can't be opened is answered so.
func shut(t *testing.T, what string, k *aes.Keys, iv [16]byte, b []byte) {
	t.Helper()
	if got, e := cbc.Open(k, iv, b); e != api.ErrPad || got != nil {
		t.Errorf("P9.2: %s: Open(%x) = %x, %d", what, b, got, e)
	}
}

func TestP91Pad(t *testing.T) {
	for n, want := range map[int]int{
		math.MinInt: 0, math.MinInt + 1: 0, math.MinInt + 15: 0, -1 << 31: 0, -33: 0, -32: 0, -31: 0, -17: 0, -16: 0, -15: 0, -2: 0, -1: 0,
		0: 16, 1: 15, 2: 14, 14: 2, 15: 1, 16: 16, 17: 15, 31: 1, 32: 16, 33: 15, 4095: 1, 4096: 16, 4097: 15,
		255: 1, 256: 16, 257: 15, 1<<31 - 1: 1, 1 << 31: 16, math.MaxInt - 15: 16, math.MaxInt - 14: 15, math.MaxInt - 1: 2, math.MaxInt: 1,
	} {
		if got := cbc.Pad(n); !bytes.Equal(got, bytes.Repeat([]byte{byte(want)}, want)) {
			t.Errorf("P9.1: Pad(%d) = %v, not %d times %d", n, got, want, want)
		}
	}
	for n := range 300 {
		if got := cbc.Pad(n); !bytes.Equal(got, slowPad(n)) || len(got) < 1 || (n+len(got))%16 != 0 {
			t.Errorf("P9.1: Pad(%d) = %v", n, got)
		}
	}
}

func TestP91UnpadWhatIsPadded(t *testing.T) {
	draw := drawn(1)
	for n := range 100 {
		for _, b := range [][]byte{draw(n), make([]byte, n), bytes.Repeat([]byte{1}, n), bytes.Repeat([]byte{16}, n), bytes.Repeat([]byte{255}, n)} {
			if got, e := cbc.Unpad(append(bytes.Clone(b), slowPad(n)...)); got != n || e != api.OK {
				t.Errorf("P9.1: Unpad of %d bytes %v, padded = %d, %d", n, b, got, e)
			}
		}
	}
	for blocks := 1; blocks < 4; blocks++ { // a padding whole, and nothing else
		if got, e := cbc.Unpad(bytes.Repeat([]byte{16}, 16*blocks)); got != 16*blocks-16 || e != api.OK {
			t.Errorf("P9.1: Unpad of %d blocks of 16 = %d, %d", blocks, got, e)
		}
	}
	if got, e := cbc.Unpad(bytes.Repeat([]byte{1}, 16)); got != 15 || e != api.OK { // the shortest one counts
		t.Errorf("P9.1: Unpad of ones = %d, %d", got, e)
	}
}

// unpadded looks whether b is told to have no padding.
func unpadded(t *testing.T, b []byte) {
	t.Helper()
	if n, e := cbc.Unpad(b); n != 0 || e != api.ErrPad {
		t.Errorf("P9.1: Unpad(%v) = %d, %d", b, n, e)
	}
}

func TestP91UnpadOfNoWholeBlocks(t *testing.T) {
	unpadded(t, nil)
	unpadded(t, []byte{})
	unpadded(t, bytes.Repeat([]byte{16}, 16)[:0])
	for n := range 80 {
		for each := range 18 { // whatever the end is
			if n%16 != 0 {
				unpadded(t, bytes.Repeat([]byte{byte(each)}, n))
				unpadded(t, ends(make([]byte, n), 16, 16)[:n])
			}
		}
	}
	whole := ends(make([]byte, 12), 4, 4) // a padding beyond the end has no say
	for n := range 16 {
		unpadded(t, whole[:n])
	}
}

func TestP91UnpadOfNoPadding(t *testing.T) {
	for _, blocks := range []int{1, 2, 3, 20} {
		ahead := make([]byte, 16*blocks-1)
		for i := range ahead {
			ahead[i] = 99
		}
		for last := range 256 {
			b := append(bytes.Clone(ahead), byte(last))
			if last != 1 {
				unpadded(t, b)
			}
			if last == 0 || last > 16 { // nor if all bytes agree
				unpadded(t, bytes.Repeat([]byte{byte(last)}, 16*blocks))
				if last <= 16*blocks {
					unpadded(t, ends(make([]byte, 16*blocks-last), last, byte(last)))
				}
			}
		}
	}
}

// A padding in which one byte, but for the last, is another one, is none.
func TestP91UnpadOfABrokenPadding(t *testing.T) {
	draw := drawn(2)
	for _, blocks := range []int{1, 2, 3} {
		for many := 2; many <= 16; many++ {
			whole := ends(draw(16*blocks-many), many, byte(many))
			for i := range many - 1 {
				for _, turn := range []byte{1, 2, 128, 255} {
					b := bytes.Clone(whole)
					b[len(b)-many+i] ^= turn
					unpadded(t, b)
				}
			}
			if n, e := cbc.Unpad(whole); n != 16*blocks-many || e != api.OK {
				t.Errorf("P9.1: Unpad(%v) = %d, %d", whole, n, e)
			}
		}
	}
}

// The standard's examples (SP 800-38A, F.2), and those of RFC 3602: they have no padding, so a block is put behind.
func TestP92OfTheStandards(t *testing.T) {
	const (
		first = "000102030405060708090a0b0c0d0e0f"
		text  = "6bc1bee22e409f96e93d7e117393172aae2d8a571e03ac9c9eb76fac45af8e5130c81c46a35ce411e5fbc1191a0a52eff69f2445df4f9b17ad2b417be66c3710"
	)
	for _, c := range []struct{ key, iv, text, want string }{
		{"2b7e151628aed2a6abf7158809cf4f3c", first, text, "7649abac8119b246cee98e9b12e9197d5086cb9b507219ee95db113a917678b273bed6b8e3c1743b7116e69e222295163ff1caa1681fac09120eca307586e1a7"},
		{"603deb1015ca71be2b73aef0857d77811f352c073b6108d72d9810a30914dff4", first, text, "f58c4c04d6e5f1ba779eabfb5f7bfbd69cfc4e967edb808d679f777bc6702c7d39f23369a9d9bacfa530e26304231461b2eb05e2c39be9fcda6c19078c6a9d1b"},
		{"06a9214036b8a15b512e03d534120006", "3dafba429d9eb430b422da802c9fac41", "53696e676c6520626c6f636b206d7367", "e353779c1079aeb82708942dbe77181a"},
		{"c286696d887c9aa0611bbb3e2025a45a", "562e17996d093d28ddb3ba695a2e6f58", "000102030405060708090a0b0c0d0e0f101112131415161718191a1b1c1d1e1f", "d296cd94c2cccf8a3a863028b5e1dc0a7586602d253cfff91b8266bea6d61ab1"},
	} {
		k, iv, b := keys(t, read(t, c.key)), [16]byte(read(t, c.iv)), read(t, c.text)
		got := cbc.Seal(k, iv, b)
		if len(got) != len(b)+16 || hex.EncodeToString(got[:len(b)]) != c.want {
			t.Fatalf("P9.2: by %s: %x, not %s and a block", c.key, got, c.want)
		}
		var last [16]byte // the padding's block
		for i := range last {
			last[i] = 16 ^ got[len(b)-16+i]
		}
		if last = k.Encrypt(last); !bytes.Equal(got[len(b):], last[:]) {
			t.Errorf("P9.2: by %s: the last block is %x, not %x", c.key, got[len(b):], last)
		}
		if back, e := cbc.Open(k, iv, got); e != api.OK || !bytes.Equal(back, b) {
			t.Errorf("P9.3: by %s: opened to %x, %d", c.key, back, e)
		}
		shut(t, "without its padding", k, iv, got[:len(b)])
	}
}

func TestP92SealAgainstTheChaptersWords(t *testing.T) {
	draw := drawn(3)
	for _, long := range []int{16, 32} {
		for range 3 {
			k, iv := keys(t, draw(long)), [16]byte(draw(16))
			for n := range 70 { // about the end of a block, and of two, and so on
				for _, b := range [][]byte{draw(n), make([]byte, n), bytes.Repeat([]byte{16}, n)} {
					if got, want := cbc.Seal(k, iv, b), slow(k, iv, b); !bytes.Equal(got, want) {
						t.Fatalf("P9.2: Seal(%x) = %x, not %x", b, got, want)
					}
				}
			}
		}
	}
	k, iv, b := keys(t, draw(32)), [16]byte(draw(16)), draw(4099)
	if got, want := cbc.Seal(k, iv, b), slow(k, iv, b); !bytes.Equal(got, want) {
		t.Errorf("P9.2: Seal of %d bytes", len(b))
	}
}

func TestP92OfNothing(t *testing.T) {
	k, iv := keys(t, drawn(4)(16)), [16]byte{1, 2, 3}
	for _, b := range [][]byte{nil, {}, bytes.Repeat([]byte{255}, 40)[:0]} {
		sealed := cbc.Seal(k, iv, b)
		if !bytes.Equal(sealed, slow(k, iv, nil)) || len(sealed) != 16 {
			t.Errorf("P9.2: Seal of nothing = %x", sealed)
		}
		if got, e := cbc.Open(k, iv, sealed); len(got) != 0 || e != api.OK {
			t.Errorf("P9.3: nothing was opened to %x, %d", got, e)
		}
		shut(t, "nothing", k, iv, b)
	}
}

func TestP92OpenOfNoWholeBlocks(t *testing.T) {
	draw := drawn(5)
	for _, long := range []int{16, 32} {
		k, iv := keys(t, draw(long)), [16]byte(draw(16))
		for n := range 50 {
			sealed := cbc.Seal(k, iv, draw(n))
			more := append(bytes.Clone(sealed), draw(40)...)
			for many := range more {
				if many%16 != 0 { // whole blocks with a padding among them, or not
					shut(t, "no whole blocks", k, iv, more[:many])
				}
			}
		}
	}
}

// What has no padding, sealed by blocks alone, is not opened, whatever its end is; what has one is.
func TestP92OpenLooksAtThePadding(t *testing.T) {
	draw := drawn(6)
	for _, long := range []int{16, 32} {
		k, iv := keys(t, draw(long)), [16]byte(draw(16))
		for _, blocks := range []int{1, 2, 3} {
			for last := range 256 {
				b := ends(bytes.Repeat([]byte{99}, 16*blocks-1), 1, byte(last))
				if last != 1 {
					shut(t, "no padding", k, iv, raw(k, iv, b))
				}
			}
			for many := 1; many <= 16; many++ {
				ahead := draw(16*blocks - many)
				got, e := cbc.Open(k, iv, raw(k, iv, ends(ahead, many, byte(many))))
				if e != api.OK || !bytes.Equal(got, ahead) {
					t.Errorf("P9.2: %x with %d bytes of padding opened to %x, %d", ahead, many, got, e)
				}
				if many > 1 {
					b := ends(ahead, many, byte(many))
					b[len(ahead)] ^= 1
					shut(t, "a broken padding", k, iv, raw(k, iv, b))
				}
			}
		}
	}
}

// A bit of the IV turned turns that bit of the first block alone; one of a block turns that of the next one, too.
func TestP92Chained(t *testing.T) {
	draw := drawn(7)
	k, iv, b := keys(t, draw(16)), [16]byte(draw(16)), draw(40)
	sealed := cbc.Seal(k, iv, b)
	for i := range 128 {
		other := iv
		other[i/8] ^= 1 << (i % 8)
		want := bytes.Clone(b)
		want[i/8] ^= 1 << (i % 8)
		if got, e := cbc.Open(k, other, sealed); e != api.OK || !bytes.Equal(got, want) {
			t.Errorf("P9.2: bit %d of the IV turned: %x, %d, not %x", i, got, e, want)
		}
		turned := bytes.Clone(sealed)
		turned[i/8] ^= 1 << (i % 8)
		want = bytes.Clone(b)
		want[16+i/8] ^= 1 << (i % 8)
		if got, e := cbc.Open(k, iv, turned); e != api.OK || !bytes.Equal(got[16:], want[16:]) || bytes.Equal(got[:16], b[:16]) {
			t.Errorf("P9.2: bit %d of the first block turned: %x, %d", i, got, e)
		}
	}
}

// Of no keys each block is enciphered to noughts: as many as it has bytes when it is padded.
func TestP92SealByNoKeys(t *testing.T) {
	draw := drawn(8)
	for _, k := range none(t) {
		for n := range 50 {
			if got := cbc.Seal(k, [16]byte(draw(16)), draw(n)); !bytes.Equal(got, make([]byte, n+len(slowPad(n)))) {
				t.Errorf("P9.2: Seal of %d bytes by no keys = %x", n, got)
			}
		}
	}
}

// Of no keys each block is deciphered to noughts: what comes of it is the one ahead, the IV at first.
func TestP92OpenByNoKeys(t *testing.T) {
	draw := drawn(9)
	for _, k := range none(t) {
		iv := [16]byte(ends(draw(11), 5, 5))
		if got, e := cbc.Open(k, iv, draw(16)); e != api.OK || !bytes.Equal(got, iv[:11]) {
			t.Errorf("P9.2: Open of a block by no keys = %x, %d", got, e)
		}
		b := append(ends(draw(14), 2, 2), draw(16)...)
		want := append(bytes.Clone(iv[:]), b[:14]...)
		if got, e := cbc.Open(k, iv, b); e != api.OK || !bytes.Equal(got, want) {
			t.Errorf("P9.2: Open of two blocks by no keys = %x, %d, not %x", got, e, want)
		}
		shut(t, "no keys, noughts", k, [16]byte{}, make([]byte, 16))
		shut(t, "no keys, noughts", k, iv, make([]byte, 32))
		shut(t, "no keys, a padding that is not the one ahead", k, [16]byte{}, bytes.Repeat([]byte{16}, 16))
		shut(t, "no keys, nothing", k, iv, nil)
		shut(t, "no keys, no whole blocks", k, iv, draw(17))
	}
}

func TestP93ThereAndBack(t *testing.T) {
	draw := drawn(10)
	for _, long := range []int{16, 32} {
		for n := range 100 {
			k, iv := keys(t, draw(long)), [16]byte(draw(16))
			// Texts that end like paddings are opened whole.
			for _, b := range [][]byte{draw(n), make([]byte, n), bytes.Repeat([]byte{1}, n), bytes.Repeat([]byte{16}, n), append(draw(n), slowPad(n)...)} {
				if got, e := cbc.Open(k, iv, cbc.Seal(k, iv, b)); e != api.OK || !bytes.Equal(got, b) {
					t.Fatalf("P9.3: %x was opened to %x, %d", b, got, e)
				}
			}
		}
	}
}

func TestR4NothingHandedInIsChanged(t *testing.T) {
	draw := drawn(11)
	k, iv := keys(t, draw(16)), [16]byte(draw(16))
	sameKeys, sameIV := *k, iv
	for n := range 60 {
		sealed := cbc.Seal(k, iv, draw(n))
		for _, b := range [][]byte{draw(n), sealed, slowPad(n), append(draw(n), slowPad(n)...)} {
			whole := append(bytes.Clone(b), draw(50)...)
			before := bytes.Clone(whole)
			part := whole[:len(b)]
			first := cbc.Seal(k, iv, part)
			opened, e := cbc.Open(k, iv, part)
			cbc.Unpad(part)
			if !bytes.Equal(whole, before) {
				t.Errorf("R4: %d bytes, or the room behind them, were changed", len(b))
			}
			clear(whole[len(b):]) // the room behind has no say
			again, sameErrno := cbc.Open(k, iv, part)
			if !bytes.Equal(cbc.Seal(k, iv, part), first) || !bytes.Equal(again, opened) || e != sameErrno {
				t.Errorf("R4: what stands behind %d bytes changed what comes of them", len(b))
			}
		}
	}
	if *k != sameKeys || iv != sameIV {
		t.Error("R4: the keys or the IV were changed")
	}
}

func TestR4WhatIsHandedOutIsNew(t *testing.T) {
	draw := drawn(12)
	k, iv := keys(t, draw(32)), [16]byte(draw(16))
	for _, n := range []int{0, 1, 15, 16, 17, 40} {
		b := draw(n)
		sealed := cbc.Seal(k, iv, b)
		sameText, sameSealed := bytes.Clone(b), bytes.Clone(sealed)
		opened, _ := cbc.Open(k, iv, sealed)
		pad := cbc.Pad(n)
		clear(opened[:cap(opened)])
		clear(pad[:cap(pad)])
		if !bytes.Equal(sealed, sameSealed) || !bytes.Equal(cbc.Pad(n), slowPad(n)) {
			t.Errorf("R4: what is told of %d bytes shares memory", n)
		}
		opened, _ = cbc.Open(k, iv, sealed)
		clear(sealed[:cap(sealed)])
		if !bytes.Equal(b, sameText) || !bytes.Equal(opened, sameText) {
			t.Errorf("R4: what is told of %d bytes shares memory with them", n)
		}
		sealed = cbc.Seal(k, iv, b)
		clear(b)
		if !bytes.Equal(sealed, sameSealed) {
			t.Errorf("R4: what Seal tells of %d bytes hangs on them later on", n)
		}
	}
}

// What came ahead, by these keys or others, is not to be seen.
func TestR5SameEachTime(t *testing.T) {
	draw := drawn(13)
	k, iv, b := keys(t, draw(16)), [16]byte(draw(16)), draw(40)
	want := cbc.Seal(k, iv, b)
	for range 20 {
		cbc.Seal(keys(t, draw(32)), [16]byte(draw(16)), draw(33))
		cbc.Open(k, iv, draw(32))
		got, e := cbc.Open(k, iv, want)
		if !bytes.Equal(cbc.Seal(k, iv, b), want) || !bytes.Equal(got, b) || e != api.OK {
			t.Fatal("R5: the same call answers otherwise")
		}
	}
}

func TestExampleOfTheChapter(t *testing.T) {
	if got := cbc.Pad(14); !bytes.Equal(got, []byte{2, 2}) {
		t.Errorf("example 1: Pad(14) = %v", got)
	}
	if got := cbc.Pad(16); !bytes.Equal(got, bytes.Repeat([]byte{16}, 16)) {
		t.Errorf("example 1: Pad(16) = %v", got)
	}
}
