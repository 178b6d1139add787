package chacha_test

import (
	"bytes"
	"encoding/hex"
	"math"
	"strings"
	"testing"

	"palfrey/chacha"
)

// read reads bytes written in hex.
func read(t *testing.T, s string) []byte {
	t.Helper()
	b, e := hex.DecodeString(s)
	if e != nil {
		t.Fatal(e)
	}
	return b
}

// drawn makes bytes that look like chance, and are the same each time.
func drawn(seed uint64) func(n int) []byte {
	return func(n int) []byte {
		b := make([]byte, n)
		for i := range b {
			seed = seed*6364136223846793005 + 1442695040888963407
			b[i] = byte(seed >> 56)
		}
		return b
	}
}

// count is the bytes 0, 1, 2 and so on, from the first one on: keys of the standard's examples.
func count(first byte) [32]byte {
	var key [32]byte
	for i := range key {
		key[i] = first + byte(i)
	}
	return key
}

// The keys, nonces and texts of the standard's appendix A.
var (
	lastKey   = [32]byte{31: 1}
	secondKey = [32]byte{1: 255}
	lastNonce = [12]byte{11: 2}
)

const (
	jabberKey = "1c9240a5eb55d38af333888604f6b5f0473917c1402b80099dca5cbc207075c0"
	sunscreen = "Ladies and Gentlemen of the class of '99: If I could offer you only one tip for the future, sunscreen would be it."
	jabber    = "'Twas brillig, and the slithy toves\nDid gyre and gimble in the wabe:\nAll mimsy were the borogoves,\nAnd the mome raths outgrabe."
	notice    = "Any submission to the IETF intended by the Contributor for publication as all or part of an IETF Internet-Draft or RFC and any statement made within the context of an IETF activity is considered an \"IETF Contribution\". Such statements include oral statements in IETF sessions, as well as written and electronic communications made at any time or place, which are addressed to"
)

func TestP41Quarter(t *testing.T) {
	for _, c := range []struct{ in, out [4]uint32 }{
		{[4]uint32{0x11111111, 0x01020304, 0x9b8d6f43, 0x01234567}, [4]uint32{0xea2a92f4, 0xcb1cf8ce, 0x4581472e, 0x5881c4bb}},
		{[4]uint32{0x516461b1, 0x2a5f714c, 0x53372767, 0x3d631689}, [4]uint32{0xbdb886dc, 0xcfacafd2, 0xe46bea80, 0xccc07c79}},
		{[4]uint32{}, [4]uint32{}},
		{[4]uint32{0: 1}, [4]uint32{0x10000001, 0x80808808, 0x01010110, 0x01000110}},
	} {
		a, b, e, d := chacha.Quarter(c.in[0], c.in[1], c.in[2], c.in[3])
		if got := [4]uint32{a, b, e, d}; got != c.out {
			t.Errorf("P4.1: Quarter(%#x) = %#x, not %#x", c.in, got, c.out)
		}
	}
}

// The quarter round is undone by its steps, the last one first; sums go round.
func TestP41QuarterUndone(t *testing.T) {
	right := func(x uint32, n int) uint32 { return x>>n | x<<(32-n) }
	draw := drawn(1)
	word := func() uint32 {
		b := draw(4)
		return uint32(b[0]) | uint32(b[1])<<8 | uint32(b[2])<<16 | uint32(b[3])<<24
	}
	const m = math.MaxUint32
	list := [][4]uint32{{m, m, m, m}, {1 << 31, 1 << 31, 1 << 31, 1 << 31}, {m, 1, m, 1}}
	for range 200 {
		list = append(list, [4]uint32{word(), word(), word(), word()})
	}
	for _, in := range list {
		a, b, c, d := chacha.Quarter(in[0], in[1], in[2], in[3])
		for _, turn := range [][2]int{{7, 8}, {12, 16}} {
			b = right(b, turn[0]) ^ c
			c -= d
			d = right(d, turn[1]) ^ a
			a -= b
		}
		if [4]uint32{a, b, c, d} != in {
			t.Errorf("P4.1: Quarter(%#x) is undone to %#x", in, [4]uint32{a, b, c, d})
		}
	}
}

func TestP41BlockOfTheStandard(t *testing.T) {
	zeros := "76b8e0ada0f13d90405d6ae55386bd28bdd219b8a08ded1aa836efcc8b770dc7da41597c5157488d7724e03fb8d84a376a43b8f41518a11cc387b669b2ee6586"
	for _, c := range []struct {
		key   [32]byte
		nonce [12]byte
		n     uint32
		want  string // the block, or its beginning
	}{
		{count(0), [12]byte{3: 9, 7: 0x4a}, 1, "10f1e7e4d13b5915500fdd1fa32071c4c7d1f4c733c068030422aa9ac3d46c4ed2826446079faa0914c2d705d98b02a2b5129cd1de164eb9cbd083e8a2503c4e"},
		{[32]byte{}, [12]byte{}, 0, zeros},
		{[32]byte{}, [12]byte{}, 1, "9f07e7be5551387a98ba977c732d080dcb0f29a048e3656912c6533e32ee7aed29b721769ce64e43d57133b074d839d531ed1f28510afb45ace10a1f4b794d6f"},
		{lastKey, [12]byte{}, 1, "3aeb5224ecf849929b9d828db1ced4dd832025e8018b8160b82284f3c949aa5a8eca00bbb4a73bdad192b5c42f73f2fd4e273644c8b36125a64addeb006c13a0"},
		{secondKey, [12]byte{}, 2, "72d54dfbf12ec44b362692df94137f328fea8da73990265ec1bbbea1ae9af0ca13b25aa26cb4a648cb9b9d1be65b2c0924a66c54d545ec1b7374f4872e99f096"},
		{[32]byte{}, lastNonce, 0, "c2c64d378cd536374ae204b9ef933fcd1a8b2288b3dfa49672ab765b54ee27c78a970e0e955c14f3a88e741b97c286f75f8fc299e8148362fa198a39531bed6d"},
		{count(0x80), [12]byte{5: 1, 6: 2, 7: 3, 8: 4, 9: 5, 10: 6, 11: 7}, 0, "8ad5a08b905f81cc815040274ab29471a833b637e3fd0da508dbb8e2fdd1a646"},
		{lastKey, lastNonce, 0, "ecfa254f845f647473d3cb140da9e87606cb33066c447b87bc2666dde3fbb739"},
		{[32]byte(read(t, jabberKey)), lastNonce, 0, "965e3bc6f9ec7ed9560808f4d229f94b137ff275ca9b3fcbdd59deaad23310ae"},
	} {
		b := chacha.Block(c.key, c.nonce, c.n)
		if got := hex.EncodeToString(b[:]); !strings.HasPrefix(got, c.want) {
			t.Errorf("P4.1: Block(%x, %x, %d) = %s, not %s", c.key, c.nonce, c.n, got, c.want)
		}
	}
}

// slow is the standard's block in its own words: all places of all quarter rounds are written out.
func slow(key [32]byte, nonce [12]byte, n uint32) [64]byte {
	little := func(b []byte) uint32 {
		return uint32(b[0]) | uint32(b[1])<<8 | uint32(b[2])<<16 | uint32(b[3])<<24
	}
	var first [16]uint32
	for i := range 4 {
		first[i] = little([]byte("expand 32-byte k")[4*i:])
		first[4+i] = little(key[4*i:])
		first[8+i] = little(key[16+4*i:])
	}
	first[12], first[13], first[14], first[15] = n, little(nonce[0:]), little(nonce[4:]), little(nonce[8:])
	s := first
	left := func(x uint32, n int) uint32 { return x<<n | x>>(32-n) }
	for range 10 {
		for _, p := range [8][4]int{{0, 4, 8, 12}, {1, 5, 9, 13}, {2, 6, 10, 14}, {3, 7, 11, 15}, {0, 5, 10, 15}, {1, 6, 11, 12}, {2, 7, 8, 13}, {3, 4, 9, 14}} {
			a, b, c, d := &s[p[0]], &s[p[1]], &s[p[2]], &s[p[3]]
			*a += *b
			*d = left(*d^*a, 16)
			*c += *d
			*b = left(*b^*c, 12)
			*a += *b
			*d = left(*d^*a, 8)
			*c += *d
			*b = left(*b^*c, 7)
		}
	}
	var out [64]byte
	for i := range 64 {
		out[i] = byte((s[i/4] + first[i/4]) >> (8 * (i % 4)))
	}
	return out
}

func TestP41BlockAgainstTheStandardsWords(t *testing.T) {
	draw := drawn(2)
	for range 100 {
		key, nonce := [32]byte(draw(32)), [12]byte(draw(12))
		high := uint32(draw(1)[0]) << 24
		for _, n := range []uint32{0, 1, 255, 256, 1 << 16, 1<<31 - 1, 1 << 31, math.MaxUint32 - 1, math.MaxUint32, high, high + 3} {
			if got, want := chacha.Block(key, nonce, n), slow(key, nonce, n); got != want {
				t.Fatalf("P4.1: Block(%x, %x, %d) = %x, not %x", key, nonce, n, got, want)
			}
		}
	}
}

// Each bit of a key, of a nonce and of a counter has its say, alone.
func TestP41EveryBit(t *testing.T) {
	look := func(key [32]byte, nonce [12]byte, n uint32) {
		t.Helper()
		if got, want := chacha.Block(key, nonce, n), slow(key, nonce, n); got != want {
			t.Errorf("P4.1: Block(%x, %x, %d) = %x, not %x", key, nonce, n, got, want)
		}
	}
	for i := range 8 * 32 {
		var key [32]byte
		key[i/8] = 1 << (i % 8)
		look(key, [12]byte{}, 0)
	}
	for i := range 8 * 12 {
		var nonce [12]byte
		nonce[i/8] = 1 << (i % 8)
		look([32]byte{}, nonce, 0)
	}
	for i := range 32 {
		look([32]byte{}, [12]byte{}, 1<<i)
	}
}

// streamed is the first many bytes of a stream, block by block.
func streamed(key [32]byte, nonce [12]byte, n uint32, many int) []byte {
	var out []byte
	for ; len(out) < many; n++ {
		b := slow(key, nonce, n)
		out = append(out, b[:]...)
	}
	return out[:max(many, 0)]
}

func TestP41Stream(t *testing.T) {
	draw := drawn(3)
	key, nonce := [32]byte(draw(32)), [12]byte(draw(12))
	for _, many := range []int{-1, -63, -64, -65, -1 << 31, math.MinInt, math.MinInt + 1, 0} {
		if s := chacha.Stream(key, nonce, 7, many); len(s) != 0 {
			t.Errorf("P4.1: Stream of %d has %d bytes", many, len(s))
		}
	}
	for _, n := range []uint32{0, 1, 1<<31 - 1, math.MaxUint32 - 2, math.MaxUint32 - 1, math.MaxUint32} {
		for many := range 300 {
			if got, want := chacha.Stream(key, nonce, n, many), streamed(key, nonce, n, many); !bytes.Equal(got, want) {
				t.Fatalf("P4.1: Stream of %d from %d on = %x, not %x", many, n, got, want)
			}
		}
	}
	if got, want := chacha.Stream(key, nonce, math.MaxUint32-500, 1<<16+1), streamed(key, nonce, math.MaxUint32-500, 1<<16+1); !bytes.Equal(got, want) {
		t.Error("P4.1: a long Stream")
	}
}

// Behind the greatest counter the next one is 0, and the nonce is as it was.
func TestP41CounterGoesRound(t *testing.T) {
	draw := drawn(4)
	for range 10 {
		key, nonce := [32]byte(draw(32)), [12]byte(draw(12))
		last, first := chacha.Block(key, nonce, math.MaxUint32), chacha.Block(key, nonce, 0)
		both := append(append([]byte{}, last[:]...), first[:]...)
		for many := range 129 {
			if got := chacha.Stream(key, nonce, math.MaxUint32, many); !bytes.Equal(got, both[:many]) {
				t.Fatalf("P4.1: Stream of %d about the counter's end = %x, not %x", many, got, both[:many])
			}
			if got := chacha.Crypt(key, nonce, math.MaxUint32, make([]byte, many)); !bytes.Equal(got, both[:many]) {
				t.Fatalf("P4.1: Crypt of %d noughts about the counter's end = %x, not %x", many, got, both[:many])
			}
		}
	}
}

func TestP41CryptOfTheStandard(t *testing.T) {
	for _, c := range []struct {
		key    [32]byte
		nonce  [12]byte
		n      uint32
		text   string
		sealed string
	}{
		{count(0), [12]byte{7: 0x4a}, 1, sunscreen, "6e2e359a2568f98041ba0728dd0d6981e97e7aec1d4360c20a27afccfd9fae0bf91b65c5524733ab8f593dabcd62b3571639d624e65152ab8f530c359f0861d807ca0dbf500d6a6156a38e088a22b65e52bc514d16ccf806818ce91ab77937365af90bbf74a35be6b40b8eedf2785e42874d"},
		{lastKey, lastNonce, 1, notice, "a3fbf07df3fa2fde4f376ca23e82737041605d9f4f4f57bd8cff2c1d4b7955ec2a97948bd3722915c8f3d337f7d370050e9e96d647b7c39f56e031ca5eb6250d4042e02785ececfa4b4bb5e8ead0440e20b6e8db09d881a7c6132f420e52795042bdfa7773d8a9051447b3291ce1411c680465552aa6c405b7764d5e87bea85ad00f8449ed8f72d0d662ab052691ca66424bc86d2df80ea41f43abf937d3259dc4b2d0dfb48a6c9139ddd7f76966e928e635553ba76c5c879d7b35d49eb2e62b0871cdac638939e25e8a1e0ef9d5280fa8ca328b351c3c765989cbcf3daa8b6ccc3aaf9f3979c92b3720fc88dc95ed84a1be059c6499b9fda236e7e818b04b0bc39c1e876b193bfe5569753f88128cc08aaa9b63d1a16f80ef2554d7189c411f5869ca52c5b83fa36ff216b9c1d30062bebcfd2dc5bce0911934fda79a86f6e698ced759c3ff9b6477338f3da4f9cd8514ea9982ccafb341b2384dd902f3d1ab7ac61dd29c6f21ba5b862f3730e37cfdc4fd806c22f221"},
		{[32]byte(read(t, jabberKey)), lastNonce, 42, jabber, "62e6347f95ed87a45ffae7426f27a1df5fb69110044c0d73118effa95b01e5cf166d3df2d721caf9b21e5fb14c616871fd84c54f9d65b283196c7fe4f60553ebf39c6402c42234e32a356b3e764312a61a5532055716ead6962568f87d3f3f7704c6a8d1bcd1bf4d50d6154b6da731b187b58dfd728afa36757a797ac188d1"},
	} {
		got := chacha.Crypt(c.key, c.nonce, c.n, []byte(c.text))
		if hex.EncodeToString(got) != c.sealed {
			t.Errorf("P4.1: Crypt of %q = %x, not %s", c.text, got, c.sealed)
		}
		if back := chacha.Crypt(c.key, c.nonce, c.n, got); string(back) != c.text {
			t.Errorf("P4.2: %q, crypted twice, is %q", c.text, back)
		}
	}
}

func TestP41CryptIsByTheStream(t *testing.T) {
	draw := drawn(5)
	for many := range 260 {
		key, nonce, b := [32]byte(draw(32)), [12]byte(draw(12)), draw(many)
		for _, n := range []uint32{0, 5, math.MaxUint32 - 1} {
			want := streamed(key, nonce, n, many)
			for i := range want {
				want[i] ^= b[i]
			}
			if got := chacha.Crypt(key, nonce, n, b); !bytes.Equal(got, want) {
				t.Fatalf("P4.1: Crypt of %d bytes from %d on = %x, not %x", many, n, got, want)
			}
		}
	}
}

func TestP41CryptOfNothing(t *testing.T) {
	for _, b := range [][]byte{nil, {}, make([]byte, 0, 100)} {
		if got := chacha.Crypt(count(1), [12]byte{1}, 9, b); len(got) != 0 {
			t.Errorf("P4.1: Crypt of nothing = %x", got)
		}
	}
}

func TestP42CryptTwice(t *testing.T) {
	draw := drawn(6)
	for many := range 200 {
		key, nonce, b := [32]byte(draw(32)), [12]byte(draw(12)), draw(many)
		for _, n := range []uint32{0, 1, math.MaxUint32} {
			if got := chacha.Crypt(key, nonce, n, chacha.Crypt(key, nonce, n, b)); !bytes.Equal(got, b) {
				t.Fatalf("P4.2: %d bytes, crypted twice from %d on: %x, not %x", many, n, got, b)
			}
		}
	}
}

func TestP42CutAtABlocksEnd(t *testing.T) {
	draw := drawn(7)
	key, nonce := [32]byte(draw(32)), [12]byte(draw(12))
	for _, many := range []int{0, 1, 63, 64, 65, 127, 128, 129, 256, 300} {
		b := draw(many)
		for _, n := range []uint32{0, 1, math.MaxUint32 - 3, math.MaxUint32 - 1, math.MaxUint32} {
			crypted, stream := chacha.Crypt(key, nonce, n, b), chacha.Stream(key, nonce, n, many)
			for blocks := range many/64 + 1 {
				cut, on := 64*blocks, n+uint32(blocks)
				parts := append(chacha.Crypt(key, nonce, n, b[:cut]), chacha.Crypt(key, nonce, on, b[cut:])...)
				if !bytes.Equal(parts, crypted) {
					t.Errorf("P4.2: Crypt of %d bytes from %d on, cut behind %d blocks", many, n, blocks)
				}
				parts = append(chacha.Stream(key, nonce, n, cut), chacha.Stream(key, nonce, on, many-cut)...)
				if !bytes.Equal(parts, stream) {
					t.Errorf("P4.2: Stream of %d bytes from %d on, cut behind %d blocks", many, n, blocks)
				}
			}
		}
	}
}

func TestR4NothingHandedInIsChanged(t *testing.T) {
	draw := drawn(8)
	key, nonce := [32]byte(draw(32)), [12]byte(draw(12))
	sameKey, sameNonce := key, nonce
	for many := range 140 {
		whole := draw(many + 100)
		before := bytes.Clone(whole)
		chacha.Crypt(key, nonce, 3, whole[:many])
		if !bytes.Equal(whole, before) {
			t.Errorf("R4: a text of %d bytes, or the room behind it, was changed", many)
		}
	}
	chacha.Block(key, nonce, 3)
	chacha.Stream(key, nonce, 3, 100)
	if key != sameKey || nonce != sameNonce {
		t.Error("R4: the key or the nonce was changed")
	}
}

func TestR4WhatIsHandedOutIsNew(t *testing.T) {
	draw := drawn(9)
	key, nonce := [32]byte(draw(32)), [12]byte(draw(12))
	for _, many := range []int{1, 63, 64, 65, 200} {
		b := draw(many)
		before := bytes.Clone(b)
		crypted, stream := chacha.Crypt(key, nonce, 3, b), chacha.Stream(key, nonce, 3, many)
		sameCrypted, sameStream := bytes.Clone(crypted), bytes.Clone(stream)
		clear(crypted[:cap(crypted)])
		clear(stream[:cap(stream)])
		if !bytes.Equal(b, before) {
			t.Errorf("R4: what Crypt tells of %d bytes shares memory with them", many)
		}
		if !bytes.Equal(chacha.Crypt(key, nonce, 3, b), sameCrypted) || !bytes.Equal(chacha.Stream(key, nonce, 3, many), sameStream) {
			t.Errorf("R4: two answers of %d bytes share memory", many)
		}
		crypted = chacha.Crypt(key, nonce, 3, b)
		clear(b)
		if !bytes.Equal(crypted, sameCrypted) {
			t.Errorf("R4: what Crypt tells of %d bytes hangs on them later on", many)
		}
	}
}

// What came ahead, by this key or another one, is not to be seen.
func TestR5SameEachTime(t *testing.T) {
	draw := drawn(10)
	key, nonce, b := [32]byte(draw(32)), [12]byte(draw(12)), draw(100)
	want := chacha.Crypt(key, nonce, 1, b)
	for range 20 {
		chacha.Crypt([32]byte(draw(32)), [12]byte(draw(12)), 1, draw(70))
		chacha.Stream(key, nonce, 1, 70)
		if !bytes.Equal(chacha.Crypt(key, nonce, 1, b), want) {
			t.Fatal("R5: the same call answers otherwise")
		}
	}
}
