package aes_test

import (
	"bytes"
	"encoding/hex"
	"testing"

	"palfrey/aes"
	"palfrey/api"
)

// read reads bytes written in hex.
func read(t *testing.T, s string) []byte {
	t.Helper()
	b, e := hex.DecodeString(s)
	if e != nil {
		t.Fatal(e)
	}
	return b
}

// keys expands a key that may be one.
func keys(t *testing.T, key []byte) *aes.Keys {
	t.Helper()
	k, e := aes.Expand(key)
	if e != api.OK || k == nil {
		t.Fatalf("P3.1: Expand(%x) = %v, %d", key, k, e)
	}
	return k
}

// drawn makes bytes that look like chance, and are the same each time.
func drawn(seed uint64) func(n int) []byte {
	return func(n int) []byte {
		b := make([]byte, n)
		for i := range b {
			seed = seed*6364136223846793005 + 1442695040888963407
			b[i] = byte(seed >> 56)
		}
		return b
	}
}

// standard are the examples of FIPS 197 (its appendices B and C) and of SP 800-38A (block by block, F.1).
var standard = []struct{ key, plain, sealed string }{
	{"000102030405060708090a0b0c0d0e0f", "00112233445566778899aabbccddeeff", "69c4e0d86a7b0430d8cdb78070b4c55a"},
	{"000102030405060708090a0b0c0d0e0f101112131415161718191a1b1c1d1e1f", "00112233445566778899aabbccddeeff", "8ea2b7ca516745bfeafc49904b496089"},
	{"2b7e151628aed2a6abf7158809cf4f3c", "3243f6a8885a308d313198a2e0370734", "3925841d02dc09fbdc118597196a0b32"},
	{"2b7e151628aed2a6abf7158809cf4f3c", "6bc1bee22e409f96e93d7e117393172a", "3ad77bb40d7a3660a89ecaf32466ef97"},
	{"2b7e151628aed2a6abf7158809cf4f3c", "ae2d8a571e03ac9c9eb76fac45af8e51", "f5d3d58503b9699de785895a96fdbaaf"},
	{"2b7e151628aed2a6abf7158809cf4f3c", "30c81c46a35ce411e5fbc1191a0a52ef", "43b1cd7f598ece23881b00e3ed030688"},
	{"2b7e151628aed2a6abf7158809cf4f3c", "f69f2445df4f9b17ad2b417be66c3710", "7b0c785e27e8ad3f8223207104725dd4"},
	{"603deb1015ca71be2b73aef0857d77811f352c073b6108d72d9810a30914dff4", "6bc1bee22e409f96e93d7e117393172a", "f3eed1bdb5d2a03c064b5a7e3db181f8"},
	{"603deb1015ca71be2b73aef0857d77811f352c073b6108d72d9810a30914dff4", "ae2d8a571e03ac9c9eb76fac45af8e51", "591ccb10d410ed26dc5ba74a31362870"},
	{"603deb1015ca71be2b73aef0857d77811f352c073b6108d72d9810a30914dff4", "30c81c46a35ce411e5fbc1191a0a52ef", "b6ed21b99ca6f4f9f153e7b1beafed1d"},
	{"603deb1015ca71be2b73aef0857d77811f352c073b6108d72d9810a30914dff4", "f69f2445df4f9b17ad2b417be66c3710", "23304b7a39f9f3ff067d8d8f9e24ecc7"},
}

func TestP31Standard(t *testing.T) {
	for _, c := range standard {
		k := keys(t, read(t, c.key))
		plain, sealed := [16]byte(read(t, c.plain)), [16]byte(read(t, c.sealed))
		if got := k.Encrypt(plain); got != sealed {
			t.Errorf("P3.1: key %s: Encrypt(%x) = %x, not %x", c.key, plain, got, sealed)
		}
		if got := k.Decrypt(sealed); got != plain {
			t.Errorf("P3.1: key %s: Decrypt(%x) = %x, not %x", c.key, sealed, got, plain)
		}
		if got, want := k.Rounds(), map[int]int{32: 10, 64: 14}[len(c.key)]; got != want {
			t.Errorf("P3.1: key %s: %d rounds, not %d", c.key, got, want)
		}
	}
}

// times multiplies in the field of 256 elements, modulo x^8 + x^4 + x^3 + x + 1, bit by bit.
func times(a, b byte) byte {
	var product byte
	for range 8 {
		if b&1 == 1 {
			product ^= a
		}
		over := a >> 7
		a, b = a<<1^27*over, b>>1
	}
	return product
}

// boxed is the S-box by its definition: the inverse in the field (of 0 it is 0), then the affine map, bit by bit.
func boxed(x byte) byte {
	var inverse, out byte
	for y := range 256 {
		if times(x, byte(y)) == 1 {
			inverse = byte(y)
		}
	}
	bit := func(i int) byte { return inverse >> (i % 8) & 1 }
	for i := range 8 {
		out |= (bit(i) ^ bit(i+4) ^ bit(i+5) ^ bit(i+6) ^ bit(i+7) ^ byte(0x63)>>i&1) << i
	}
	return out
}

func TestP31SubAtEveryByte(t *testing.T) {
	seen := map[byte]int{}
	for x := range 256 {
		got := aes.Sub(byte(x))
		if want := boxed(byte(x)); got != want {
			t.Errorf("P3.1: Sub(%#x) = %#x, not %#x", x, got, want)
		}
		seen[got]++
	}
	if len(seen) != 256 {
		t.Errorf("P3.1: Sub tells %d bytes", len(seen))
	}
	for x, want := range map[byte]byte{0: 0x63, 1: 0x7c, 0x52: 0x00, 0x53: 0xed, 0x80: 0xcd, 0xff: 0x16} {
		if got := aes.Sub(x); got != want {
			t.Errorf("P3.1: Sub(%#x) = %#x, not %#x", x, got, want)
		}
	}
}

// slow is the standard's cipher in its own words, on rows and columns of bytes: what the layer's is held against.
type slow struct {
	box  [256]byte
	back [256]byte
}

func newSlow() *slow {
	s := &slow{}
	for x := range 256 {
		s.box[x] = boxed(byte(x))
		s.back[s.box[x]] = byte(x)
	}
	return s
}

// rounds are the round keys, 16 bytes each.
func (s *slow) rounds(key []byte) [][]byte {
	words := len(key) / 4
	all := bytes.Clone(key)
	constant := byte(1)
	for i := words; i < 4*(words+7); i++ {
		last := bytes.Clone(all[4*i-4 : 4*i])
		if i%words == 0 {
			last = append(last[1:], last[0])
		}
		if i%words == 0 || words > 6 && i%words == 4 {
			for j := range last {
				last[j] = s.box[last[j]]
			}
		}
		if i%words == 0 {
			last[0] ^= constant
			constant = times(constant, 2)
		}
		for j := range 4 {
			all = append(all, all[4*(i-words)+j]^last[j])
		}
	}
	var out [][]byte
	for len(all) > 0 {
		out, all = append(out, all[:16]), all[16:]
	}
	return out
}

// matrix multiplies each column by the rows that come of the first one, each turned on by one.
func matrix(b [16]byte, first [4]byte) [16]byte {
	var out [16]byte
	for c := range 4 {
		for r := range 4 {
			for j := range 4 {
				out[4*c+r] ^= times(first[(j-r+4)%4], b[4*c+j])
			}
		}
	}
	return out
}

func added(b [16]byte, key []byte) [16]byte {
	for i := range b {
		b[i] ^= key[i]
	}
	return b
}

func (s *slow) encrypt(key []byte, b [16]byte) [16]byte {
	rounds := s.rounds(key)
	b = added(b, rounds[0])
	for i, round := range rounds[1:] {
		var moved [16]byte
		for c := range 4 {
			for r := range 4 {
				moved[4*c+r] = s.box[b[4*((c+r)%4)+r]]
			}
		}
		if i < len(rounds)-2 {
			moved = matrix(moved, [4]byte{2, 3, 1, 1})
		}
		b = added(moved, round)
	}
	return b
}

func (s *slow) decrypt(key []byte, b [16]byte) [16]byte {
	rounds := s.rounds(key)
	for i := len(rounds) - 1; i > 0; i-- {
		b = added(b, rounds[i])
		if i < len(rounds)-1 {
			b = matrix(b, [4]byte{14, 11, 13, 9})
		}
		var moved [16]byte
		for c := range 4 {
			for r := range 4 {
				moved[4*((c+r)%4)+r] = s.back[b[4*c+r]]
			}
		}
		b = moved
	}
	return added(b, rounds[0])
}

func TestP31AgainstTheStandardsWords(t *testing.T) {
	s, draw := newSlow(), drawn(1)
	list := [][]byte{make([]byte, 16), make([]byte, 32), bytes.Repeat([]byte{255}, 16), bytes.Repeat([]byte{255}, 32)}
	for range 40 {
		list = append(list, draw(16), draw(32))
	}
	for _, key := range list {
		k := keys(t, key)
		for range 10 {
			b := [16]byte(draw(16))
			if got, want := k.Encrypt(b), s.encrypt(key, b); got != want {
				t.Fatalf("P3.1: key %x: Encrypt(%x) = %x, not %x", key, b, got, want)
			}
			if got, want := k.Decrypt(b), s.decrypt(key, b); got != want {
				t.Fatalf("P3.1: key %x: Decrypt(%x) = %x, not %x", key, b, got, want)
			}
		}
	}
}

// Each bit of a key, and each of a block, has its say, alone.
func TestP31EveryBit(t *testing.T) {
	s := newSlow()
	for _, long := range []int{16, 32} {
		for i := range 8 * long {
			key := make([]byte, long)
			key[i/8] = 1 << (i % 8)
			if got, want := keys(t, key).Encrypt([16]byte{}), s.encrypt(key, [16]byte{}); got != want {
				t.Errorf("P3.1: key %x: Encrypt of noughts = %x, not %x", key, got, want)
			}
		}
		k := keys(t, make([]byte, long))
		for i := range 128 {
			var b [16]byte
			b[i/8] = 1 << (i % 8)
			if got, want := k.Encrypt(b), s.encrypt(make([]byte, long), b); got != want {
				t.Errorf("P3.1: key of %d noughts: Encrypt(%x) = %x, not %x", long, b, got, want)
			}
			if got, want := k.Decrypt(b), s.decrypt(make([]byte, long), b); got != want {
				t.Errorf("P3.1: key of %d noughts: Decrypt(%x) = %x, not %x", long, b, got, want)
			}
		}
	}
}

func TestP31KeysOfOtherLengths(t *testing.T) {
	if k, e := aes.Expand(nil); k != nil || e != api.ErrKey {
		t.Errorf("P3.1: Expand(nil) = %v, %d", k, e)
	}
	lengths := []int{64, 100, 128, 160, 192, 256, 272, 1 << 16, 1<<16 + 16}
	for n := range 50 {
		lengths = append(lengths, n)
	}
	for _, n := range lengths {
		k, e := aes.Expand(make([]byte, n, n+32))
		if n == 16 || n == 32 {
			if k == nil || e != api.OK {
				t.Errorf("P3.1: Expand of %d bytes = %v, %d", n, k, e)
			}
		} else if k != nil || e != api.ErrKey {
			t.Errorf("P3.1: Expand of %d bytes = %v, %d", n, k, e)
		}
	}
}

// asNil looks whether all calls of k answer as those of nil do.
func asNil(t *testing.T, what string, k *aes.Keys) {
	t.Helper()
	for _, b := range [][16]byte{{}, {1}, {15: 255}, [16]byte(bytes.Repeat([]byte{0x52}, 16))} {
		if x := k.Encrypt(b); x != [16]byte{} {
			t.Errorf("%s: Encrypt(%x) = %x", what, b, x)
		}
		if x := k.Decrypt(b); x != [16]byte{} {
			t.Errorf("%s: Decrypt(%x) = %x", what, b, x)
		}
	}
	if n := k.Rounds(); n != 0 {
		t.Errorf("%s: %d rounds", what, n)
	}
}

func TestP31Nil(t *testing.T) {
	var k *aes.Keys
	asNil(t, "P3.1: nil", k)
	k.Wipe()
	asNil(t, "P3.1: nil, wiped", k)
	asNil(t, "P3.1: keys that Expand did not make", &aes.Keys{})
}

func TestP32Wipe(t *testing.T) {
	for _, long := range []int{16, 32} {
		key := drawn(2)(long)
		k, other := keys(t, key), keys(t, key)
		b := [16]byte{1, 2, 3}
		want := k.Encrypt(b)
		k.Wipe()
		asNil(t, "P3.2: wiped", k)
		if *k != (aes.Keys{}) {
			t.Error("P3.2: something of the key is left")
		}
		k.Wipe()
		asNil(t, "P3.2: wiped twice", k)
		if got := other.Encrypt(b); got != want || other.Rounds() != long/4+6 {
			t.Error("P3.2: others of the same key were wiped too")
		}
		if got := keys(t, key).Encrypt(b); got != want {
			t.Error("P3.2: the key can't be expanded again")
		}
		other.Wipe()
	}
}

func TestP33ThereAndBack(t *testing.T) {
	draw := drawn(3)
	for _, long := range []int{16, 32} {
		for range 50 {
			key := draw(long)
			k := keys(t, key)
			for _, b := range [][16]byte{{}, [16]byte(bytes.Repeat([]byte{255}, 16)), [16]byte(draw(16)), [16]byte(draw(16))} {
				if got := k.Decrypt(k.Encrypt(b)); got != b {
					t.Fatalf("P3.3: key %x: %x was deciphered to %x", key, b, got)
				}
				if got := k.Encrypt(k.Decrypt(b)); got != b {
					t.Fatalf("P3.3: key %x: %x was enciphered to %x", key, b, got)
				}
			}
		}
	}
}

func TestP33NoTwoToTheSame(t *testing.T) {
	for _, long := range []int{16, 32} {
		k := keys(t, drawn(4)(long))
		sealed, opened := map[[16]byte]int{}, map[[16]byte]int{}
		for i := range 16 * 256 { // every byte at every place
			var b [16]byte
			b[i/256] = byte(i)
			sealed[k.Encrypt(b)]++
			opened[k.Decrypt(b)]++
		}
		if want := 16*255 + 1; len(sealed) != want || len(opened) != want {
			t.Errorf("P3.3: of %d blocks there came %d and %d", want, len(sealed), len(opened))
		}
	}
}

func TestR4KeyIsNeitherChangedNorKept(t *testing.T) {
	draw := drawn(5)
	for _, long := range []int{0, 15, 16, 17, 24, 32, 33} {
		whole := draw(long + 64)
		before := bytes.Clone(whole)
		k, _ := aes.Expand(whole[:long])
		b := [16]byte(draw(16))
		same := b
		sealed, opened := k.Encrypt(b), k.Decrypt(b)
		if b != same {
			t.Error("R4: the block was changed")
		}
		if !bytes.Equal(whole, before) {
			t.Errorf("R4: a key of %d bytes, or the room behind it, was changed", long)
		}
		clear(whole)
		if k.Encrypt(b) != sealed || k.Decrypt(b) != opened {
			t.Errorf("R4: a key of %d bytes was kept", long)
		}
		k.Wipe()
		if !bytes.Equal(whole, make([]byte, len(whole))) {
			t.Errorf("R4: wiping changed a key of %d bytes that was handed in", long)
		}
	}
	key := draw(32)
	before := bytes.Clone(key)
	keys(t, key).Wipe()
	if !bytes.Equal(key, before) {
		t.Error("R4: wiping changed the key that was handed in")
	}
}

// What came ahead on the same keys, and on others, is not to be seen.
func TestR5SameEachTime(t *testing.T) {
	draw := drawn(6)
	one, two := keys(t, draw(16)), keys(t, draw(32))
	b := [16]byte(draw(16))
	sealed, opened := one.Encrypt(b), one.Decrypt(b)
	for range 20 {
		two.Decrypt(two.Encrypt([16]byte(draw(16))))
		one.Encrypt([16]byte(draw(16)))
		if one.Encrypt(b) != sealed || one.Decrypt(b) != opened || one.Rounds() != 10 || two.Rounds() != 14 {
			t.Fatal("R5: the same call answers otherwise")
		}
	}
}
