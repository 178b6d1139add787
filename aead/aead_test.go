package aead_test

import (
	"bytes"
	"encoding/hex"
	"math/big"
	"slices"
	"testing"

	"palfrey/aead"
	"palfrey/api"
	"palfrey/chacha"
)

// read reads bytes written in hex.
func read(t *testing.T, s string) []byte {
	t.Helper()
	b, e := hex.DecodeString(s)
	if e != nil {
		t.Fatal(e)
	}
	return b
}

// drawn makes bytes that look like chance, and are the same each time.
func drawn(seed uint64) func(n int) []byte {
	return func(n int) []byte {
		b := make([]byte, n)
		for i := range b {
			seed = seed*6364136223846793005 + 1442695040888963407
			b[i] = byte(seed >> 56)
		}
		return b
	}
}

// lengths are of no bytes, and of those about the ends of 16 bytes and of 64.
func lengths() []int { return []int{0, 1, 2, 15, 16, 17, 31, 32, 33, 63, 64, 65, 127, 128, 129} }

// upside is b, the last byte first.
func upside(b []byte) []byte {
	b = bytes.Clone(b)
	slices.Reverse(b)
	return b
}

// little is the number of bytes, the lowest one first.
func little(b []byte) *big.Int { return new(big.Int).SetBytes(upside(b)) }

// whole is b with noughts behind, to whole 16 bytes.
func whole(b []byte) []byte {
	b = bytes.Clone(b)
	for len(b)%16 != 0 {
		b = append(b, 0)
	}
	return b
}

// eight is n as 8 bytes, the lowest one first.
func eight(n int) []byte { return upside(big.NewInt(int64(n)).FillBytes(make([]byte, 8))) }

// slowSum is layer 5's sum by its chapter's words, on numbers of any length.
func slowSum(key, b []byte) []byte {
	power := func(n uint) *big.Int { return new(big.Int).Lsh(big.NewInt(1), n) }
	mask, _ := new(big.Int).SetString("0ffffffc0ffffffc0ffffffc0fffffff", 16)
	prime := new(big.Int).Sub(power(130), big.NewInt(5))
	r, sum := new(big.Int).And(little(key[:16]), mask), new(big.Int)
	for part := range slices.Chunk(b, 16) {
		sum.Add(sum, little(append(bytes.Clone(part), 1)))
		sum.Mod(sum.Mul(sum, r), prime)
	}
	sum.Mod(sum.Add(sum, little(key[16:])), power(128))
	return upside(sum.FillBytes(make([]byte, 16)))
}

// slow seals as the chapter's words say, byte by byte.
func slow(key, nonce, aad, b []byte) []byte {
	block := func(n int) [64]byte { return chacha.Block([32]byte(key), [12]byte(nonce), uint32(n)) }
	var sealed []byte
	for i := range b {
		stream := block(1 + i/64)
		sealed = append(sealed, b[i]^stream[i%64])
	}
	one, all := block(0), append(whole(aad), whole(sealed)...)
	all = append(append(all, eight(len(aad))...), eight(len(b))...)
	return append(sealed, slowSum(one[:32], all)...)
}

// shut looks whether what can't be opened is answered so.
func shut(t *testing.T, what string, want api.Errno, key, nonce, aad, b []byte) {
	t.Helper()
	if got, e := aead.Open(key, nonce, aad, b); e != want || len(got) != 0 {
		t.Errorf("%s: Open(%x, %x, %x, %x) = %x, %d, not %d", what, key, nonce, aad, b, got, e, want)
	}
}

// unsealed looks whether what can't be sealed is answered so.
func unsealed(t *testing.T, what string, want api.Errno, key, nonce, aad, b []byte) {
	t.Helper()
	if got, e := aead.Seal(key, nonce, aad, b); e != want || len(got) != 0 {
		t.Errorf("%s: Seal(%x, %x, %x, %x) = %x, %d, not %d", what, key, nonce, aad, b, got, e, want)
	}
}

// there looks whether b is sealed to what it should be, and that is opened to b.
func there(t *testing.T, key, nonce, aad, b, want []byte) {
	t.Helper()
	got, e := aead.Seal(key, nonce, aad, b)
	if e != api.OK || !bytes.Equal(got, want) {
		t.Fatalf("P11.1: Seal(%x, %x, %x, %x) = %x, %d, not %x", key, nonce, aad, b, got, e, want)
	}
	if back, e := aead.Open(key, nonce, aad, got); e != api.OK || !bytes.Equal(back, b) {
		t.Fatalf("P11.2: Open(%x, %x, %x, %x) = %x, %d, not %x", key, nonce, aad, got, back, e, b)
	}
}

const (
	sunscreen = "Ladies and Gentlemen of the class of '99: If I could offer you only one tip for the future, sunscreen would be it."
	drafts    = "Internet-Drafts are draft documents valid for a maximum of six months and may be updated, replaced, or obsoleted by other documents at any time. It is inappropriate to use Internet-Drafts as reference material or to cite them other than as /\u201cwork in progress./\u201d"
)

// The standard's examples: of its section 2.8.2, and of its appendix A.5.
func TestP111OfTheStandard(t *testing.T) {
	for _, c := range []struct{ key, nonce, aad, text, want string }{
		{
			"808182838485868788898a8b8c8d8e8f909192939495969798999a9b9c9d9e9f", "070000004041424344454647", "50515253c0c1c2c3c4c5c6c7", sunscreen,
			"d31a8d34648e60db7b86afbc53ef7ec2a4aded51296e08fea9e2b5a736ee62d63dbea45e8ca9671282fafb69da92728b1a71de0a9e060b2905d6a5b67ecd3b3692ddbd7f2d778b8c9803aee328091b58fab324e4fad675945585808b4831d7bc3ff4def08e4b7a9de576d26586cec64b6116" +
				"1ae10b594f09e26a7e902ecbd0600691",
		},
		{
			"1c9240a5eb55d38af333888604f6b5f0473917c1402b80099dca5cbc207075c0", "000000000102030405060708", "f33388860000000000004e91", drafts,
			"64a0861575861af460f062c79be643bd5e805cfd345cf389f108670ac76c8cb24c6cfc18755d43eea09ee94e382d26b0bdb7b73c321b0100d4f03b7f355894cf332f830e710b97ce98c8a84abd0b948114ad176e008d33bd60f982b1ff37c8559797a06ef4f0ef61c186324e2b3506383606907b6a7c02b0f9f6157b53c867e4b9166c767b804d46a59b5216cde7a4e99040c5a40433225ee282a1b0a06c523eaf4534d7f83fa1155b0047718cbc546a0d072b04b3564eea1b422273f548271a0bb2316053fa76991955ebd63159434ecebb4e466dae5a1073a6727627097a1049e617d91d361094fa68f0ff77987130305beaba2eda04df997b714d6c6f2c29a6ad5cb4022b02709b" +
				"eead9d67890cbb22392336fea1851f38",
		},
		{"0000000000000000000000000000000000000000000000000000000000000000", "000000000000000000000000", "", "", "4eb972c9a8fb3a1b382bb4d36f5ffad1"},
	} {
		there(t, read(t, c.key), read(t, c.nonce), read(t, c.aad), []byte(c.text), read(t, c.want))
	}
}

func TestP111SealAgainstTheChaptersWords(t *testing.T) {
	draw := drawn(1)
	for _, many := range lengths() {
		for _, n := range lengths() {
			key, nonce, aad, b := draw(32), draw(12), draw(many), draw(n)
			there(t, key, nonce, aad, b, slow(key, nonce, aad, b))
		}
	}
	for n := range 200 {
		key, nonce, aad, b := draw(32), draw(12), draw(n%37), draw(n)
		there(t, key, nonce, aad, b, slow(key, nonce, aad, b))
	}
	key, nonce, aad, b := draw(32), draw(12), draw(1000), draw(64*260+3) // beyond 256 counters
	there(t, key, nonce, aad, b, slow(key, nonce, aad, b))
}

// What is of noughts, or of 255s, alone: by its length, too, it counts.
func TestP111OneByteAgain(t *testing.T) {
	for _, each := range []byte{0, 255} {
		row := func(n int) []byte { return bytes.Repeat([]byte{each}, n) }
		for _, many := range lengths() {
			for _, n := range lengths() {
				key, nonce, aad, b := row(32), row(12), row(many), row(n)
				there(t, key, nonce, aad, b, slow(key, nonce, aad, b))
			}
		}
	}
}

// A key of another length is told first, then a nonce of another one, then that there are too few bytes.
func TestP111WrongInputs(t *testing.T) {
	draw := drawn(2)
	key, nonce := draw(32), draw(12)
	sealed, _ := aead.Seal(key, nonce, nil, draw(20))
	for _, b := range [][]byte{nil, {}, draw(1), draw(15), draw(16), draw(40), sealed} {
		for _, nonces := range [][]byte{nil, {}, draw(8), draw(11), nonce, draw(13), draw(24), draw(32)} {
			for _, n := range []int{0, 1, 12, 16, 24, 31, 33, 48, 64} {
				unsealed(t, "P11.1: another key's length", api.ErrKey, draw(n), nonces, nil, b)
				shut(t, "P11.1: another key's length", api.ErrKey, draw(n), nonces, nil, b)
			}
			unsealed(t, "P11.1: no key", api.ErrKey, nil, nonces, nil, b)
			shut(t, "P11.1: no key", api.ErrKey, nil, nonces, nil, b)
			if len(nonces) != 12 {
				unsealed(t, "P11.1: another nonce's length", api.ErrIV, key, nonces, nil, b)
				shut(t, "P11.1: another nonce's length", api.ErrIV, key, nonces, nil, b)
			}
		}
	}
}

// Of all lengths one alone is a key's, and one a nonce's; the room behind a list has no say.
func TestP111Lengths(t *testing.T) {
	draw := drawn(3)
	for n := range 100 {
		want := api.ErrKey
		if n == 32 {
			want = api.OK
		}
		if _, e := aead.Seal(draw(100)[:n], draw(12), nil, nil); e != want {
			t.Errorf("P11.1: Seal by a key of %d bytes = %d", n, e)
		}
		want = api.ErrIV
		if n == 12 {
			want = api.OK
		}
		if _, e := aead.Seal(draw(32), draw(100)[:n], nil, nil); e != want {
			t.Errorf("P11.1: Seal by a nonce of %d bytes = %d", n, e)
		}
	}
}

func TestP111OpenOfTooFew(t *testing.T) {
	draw := drawn(4)
	key, nonce, aad := draw(32), draw(12), draw(20)
	sealed, _ := aead.Seal(key, nonce, aad, nil)
	shut(t, "P11.1: nothing", api.ErrShort, key, nonce, aad, nil)
	for n := range 16 { // also where the tag begins so
		shut(t, "P11.1: too few", api.ErrShort, key, nonce, aad, sealed[:n])
		shut(t, "P11.1: too few", api.ErrShort, key, nonce, nil, make([]byte, n))
	}
}

// Of 16 bytes there is a tag alone, of nothing.
func TestP111OpenOfSixteen(t *testing.T) {
	draw := drawn(5)
	for _, many := range lengths() {
		key, nonce, aad := draw(32), draw(12), draw(many)
		tag := slow(key, nonce, aad, nil)
		if got, e := aead.Open(key, nonce, aad, tag); e != api.OK || len(got) != 0 {
			t.Errorf("P11.1: Open of a tag = %x, %d", got, e)
		}
		for _, b := range [][]byte{make([]byte, 16), bytes.Repeat([]byte{255}, 16), draw(16)} {
			shut(t, "P11.1: another tag", api.ErrTag, key, nonce, aad, b)
		}
	}
}

func TestP112ThereAndBack(t *testing.T) {
	draw := drawn(6)
	for n := range 300 {
		key, nonce, aad, b := draw(32), draw(12), draw((3*n)%80), draw(n)
		sealed, e := aead.Seal(key, nonce, aad, b)
		if e != api.OK || len(sealed) != n+16 {
			t.Fatalf("P11.1: Seal of %d bytes: %d of them, %d", n, len(sealed), e)
		}
		if back, e := aead.Open(key, nonce, aad, sealed); e != api.OK || !bytes.Equal(back, b) {
			t.Fatalf("P11.2: %x was opened to %x, %d", b, back, e)
		}
	}
}

// One bit turned, each of the tag, and of the text and of the aad by these keys, is seen.
func TestP112OneBitTurned(t *testing.T) {
	draw := drawn(7)
	for _, c := range []struct{ aad, text int }{{0, 0}, {1, 0}, {0, 1}, {16, 16}, {17, 15}, {20, 65}, {33, 63}} {
		key, nonce, aad, b := draw(32), draw(12), draw(c.aad), draw(c.text)
		sealed, _ := aead.Seal(key, nonce, aad, b)
		for _, row := range [][]byte{sealed, aad} {
			for i := range 8 * len(row) {
				row[i/8] ^= 1 << (i % 8)
				shut(t, "P11.2: one bit turned", api.ErrTag, key, nonce, aad, sealed)
				row[i/8] ^= 1 << (i % 8)
			}
		}
		if back, e := aead.Open(key, nonce, aad, sealed); e != api.OK || !bytes.Equal(back, b) {
			t.Errorf("P11.2: %x was opened to %x, %d", b, back, e)
		}
	}
}

// Nor is what was cut, or made longer, or put from one to the other, or sealed by another key or nonce.
func TestP112OtherInputs(t *testing.T) {
	draw := drawn(8)
	key, nonce, aad, b := draw(32), draw(12), draw(20), draw(20)
	sealed, _ := aead.Seal(key, nonce, aad, b)
	cut := append(bytes.Clone(sealed[:19]), sealed[20:]...)
	longer := append(append(bytes.Clone(sealed[:20]), 0), sealed[20:]...)
	for _, x := range [][]byte{sealed[:35], sealed[1:], append(bytes.Clone(sealed), 0), cut, longer} {
		shut(t, "P11.2: another text", api.ErrTag, key, nonce, aad, x)
	}
	for _, x := range [][]byte{nil, {}, aad[:19], aad[1:], append(bytes.Clone(aad), 0), append(bytes.Clone(aad), make([]byte, 12)...)} {
		shut(t, "P11.2: another aad", api.ErrTag, key, nonce, x, sealed)
	}
	shut(t, "P11.2: put from the text to the aad", api.ErrTag, key, nonce, append(bytes.Clone(aad), sealed[0]), sealed[1:])
	shut(t, "P11.2: put from the aad to the text", api.ErrTag, key, nonce, aad[:19], append([]byte{aad[19]}, sealed...))
	shut(t, "P11.2: another key", api.ErrTag, draw(32), nonce, aad, sealed)
	for i := range 8 * len(nonce) {
		other := bytes.Clone(nonce)
		other[i/8] ^= 1 << (i % 8)
		shut(t, "P11.2: one bit of the nonce turned", api.ErrTag, key, other, aad, sealed)
	}
}

func TestR3NilAndEmptyAreTheSame(t *testing.T) {
	draw := drawn(9)
	key, nonce := draw(32), draw(12)
	want := slow(key, nonce, nil, nil)
	for _, aad := range [][]byte{nil, {}, bytes.Repeat([]byte{255}, 40)[:0]} {
		for _, b := range [][]byte{nil, {}, bytes.Repeat([]byte{255}, 40)[:0]} {
			there(t, key, nonce, aad, b, want)
		}
	}
}

// spare is b with room behind that is filled.
func spare(b, behind []byte) []byte { return append(bytes.Clone(b), behind...)[:len(b)] }

// What is handed in, and the room behind it, is not changed, and that room has no say.
func TestR4NothingHandedInIsChanged(t *testing.T) {
	draw := drawn(10)
	for _, n := range lengths() {
		key, nonce := spare(draw(32), draw(40)), spare(draw(12), draw(40))
		aad, b := spare(draw(n), draw(40)), spare(draw(n), draw(40))
		sealed := spare(slow(key, nonce, aad, b), draw(40))
		ask := func() [][]byte {
			again, _ := aead.Seal(key, nonce, aad, b)
			opened, _ := aead.Open(key, nonce, aad, sealed)
			aead.Open(key, nonce, aad, b)
			return [][]byte{again, opened}
		}
		var before [][]byte
		for _, x := range [][]byte{key, nonce, aad, b, sealed} {
			before = append(before, bytes.Clone(x[:len(x)+40]))
		}
		told := ask()
		for i, x := range [][]byte{key, nonce, aad, b, sealed} {
			if !bytes.Equal(x[:len(x)+40], before[i]) {
				t.Errorf("R4: list %d of %d bytes, or the room behind it, was changed", i, len(x))
			}
			clear(x[len(x) : len(x)+40])
		}
		for i, x := range ask() {
			if !bytes.Equal(x, told[i]) {
				t.Errorf("R4: what stands behind lists of %d bytes changed what comes of them", n)
			}
		}
	}
}

// What is handed out shares no memory with what was handed in, nor with what is handed out again.
func TestR4WhatIsHandedOutIsNew(t *testing.T) {
	draw := drawn(11)
	for _, n := range lengths() {
		key, nonce, aad, b := draw(32), draw(12), draw(n), draw(n)
		want, sameText := slow(key, nonce, aad, b), bytes.Clone(b)
		sealed, _ := aead.Seal(key, nonce, aad, b)
		opened, _ := aead.Open(key, nonce, aad, sealed)
		again, _ := aead.Seal(key, nonce, aad, b)
		clear(again[:cap(again)])
		if !bytes.Equal(sealed, want) {
			t.Errorf("R4: two texts of %d bytes that are sealed share memory", n)
		}
		for _, x := range [][]byte{key, nonce, aad, b} {
			clear(x)
		}
		if !bytes.Equal(sealed, want) || !bytes.Equal(opened, sameText) {
			t.Errorf("R4: what is told of %d bytes hangs on them later on", n)
		}
		clear(sealed[:cap(sealed)])
		if !bytes.Equal(opened, sameText) {
			t.Errorf("R4: what is opened to %d bytes hangs on what was sealed", n)
		}
	}
}

// What came ahead, by this key or others, good or wrong, is not to be seen.
func TestR5SameEachTime(t *testing.T) {
	draw := drawn(12)
	key, nonce, aad, b := draw(32), draw(12), draw(20), draw(100)
	want := slow(key, nonce, aad, b)
	for range 20 {
		other, _ := aead.Seal(draw(32), draw(12), draw(7), draw(33))
		aead.Open(key, nonce, aad, other)
		aead.Seal(key[1:], nonce, aad, b)
		aead.Seal(key, nil, aad, b)
		there(t, key, nonce, aad, b, want)
	}
}

func TestExampleOfTheChapter(t *testing.T) {
	draw := drawn(13)
	for _, b := range [][]byte{nil, {}} {
		if got, e := aead.Seal(draw(32), draw(12), draw(9), b); e != api.OK || len(got) != 16 {
			t.Errorf("example 1: %x, %d", got, e)
		}
	}
}
