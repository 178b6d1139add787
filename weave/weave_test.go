package weave_test

import (
	"bytes"
	"encoding/hex"
	"math"
	"slices"
	"strings"
	"testing"

	"palfrey/aes"
	"palfrey/api"
	"palfrey/chacha"
	"palfrey/ctr"
	"palfrey/weave"
)

// read reads bytes written in hex.
func read(t *testing.T, s string) []byte {
	t.Helper()
	b, e := hex.DecodeString(s)
	if e != nil {
		t.Fatal(e)
	}
	return b
}

// keys expands a key that may be one.
func keys(t *testing.T, key []byte) *aes.Keys {
	t.Helper()
	k, e := aes.Expand(key)
	if e != api.OK {
		t.Fatalf("Expand(%x): %d", key, e)
	}
	return k
}

// wiped is keys of that key, wiped.
func wiped(t *testing.T, key []byte) *aes.Keys {
	t.Helper()
	k := keys(t, key)
	k.Wipe()
	return k
}

// drawn makes bytes that look like chance, and are the same each time.
func drawn(seed uint64) func(n int) []byte {
	return func(n int) []byte {
		b := make([]byte, n)
		for i := range b {
			seed = seed*6364136223846793005 + 1442695040888963407
			b[i] = byte(seed >> 56)
		}
		return b
	}
}

// ivs are some whose count goes round, or is carried to the upper half, and another one.
func ivs(draw func(n int) []byte) [][16]byte {
	full := [16]byte(bytes.Repeat([]byte{255}, 16))
	half, near := full, full
	half[7], near[15] = 7, 253
	return [][16]byte{full, half, near, {14: 255, 15: 254}, [16]byte(draw(16))}
}

// counters are texts of so many bytes, by keys of 16 and 32 bytes in turn.
func counters(t *testing.T, draw func(n int) []byte, long []int) []weave.Counter {
	var l []weave.Counter
	for i, n := range long {
		l = append(l, weave.Counter{Keys: keys(t, draw(16+i%2*16)), IV: ivs(draw)[i%5], B: draw(n)})
	}
	return l
}

// streams are texts of so many bytes, whose counters go round in some.
func streams(draw func(n int) []byte, long []int) []weave.Stream {
	var l []weave.Stream
	for i, n := range long {
		from := []uint32{1, math.MaxUint32, 0, math.MaxUint32 - 1, 1<<31 - 1}[i%5]
		l = append(l, weave.Stream{Key: [32]byte(draw(32)), Nonce: [12]byte(draw(12)), N: from, B: draw(n)})
	}
	return l
}

// stepsOf counts the steps of texts of so many bytes, a byte at a time: a block is begun where the one ahead ends, a step where it is full.
func stepsOf(long []int, size, wide int) int {
	steps, room := 0, 0
	for _, n := range long {
		for i := range n {
			if i%size != 0 {
				continue
			}
			if room == 0 {
				steps, room = steps+1, wide
			}
			room--
		}
	}
	return steps
}

// same tells whether both lists have the same texts.
func same(a, b [][]byte) bool { return slices.EqualFunc(a, b, bytes.Equal) }

// copied is the texts, in memory of their own.
func copied(l [][]byte) [][]byte {
	var out [][]byte
	for _, b := range l {
		out = append(out, bytes.Clone(b))
	}
	return out
}

// lookCTR holds CTR against layer 8's word of each text alone.
func lookCTR(t *testing.T, l []weave.Counter) {
	t.Helper()
	var long []int
	for _, c := range l {
		long = append(long, len(c.B))
	}
	out, n := weave.CTR(l)
	if want := stepsOf(long, 16, 8); len(out) != len(l) || n != want {
		t.Fatalf("P14.1: CTR of texts of %v bytes: %d texts, %d steps, not %d, %d", long, len(out), n, len(l), want)
	}
	for i, c := range l {
		if want := ctr.Crypt(c.Keys, c.IV, c.B); !bytes.Equal(out[i], want) {
			t.Fatalf("P14.1: CTR of texts of %v bytes, the one at %d, from %x on: %x, not %x", long, i, c.IV, out[i], want)
		}
	}
}

// lookChaCha holds ChaCha against layer 4's word of each text alone.
func lookChaCha(t *testing.T, l []weave.Stream) {
	t.Helper()
	var long []int
	for _, s := range l {
		long = append(long, len(s.B))
	}
	out, n := weave.ChaCha(l)
	if want := stepsOf(long, 64, 4); len(out) != len(l) || n != want {
		t.Fatalf("P14.1: ChaCha of texts of %v bytes: %d texts, %d steps, not %d, %d", long, len(out), n, len(l), want)
	}
	for i, s := range l {
		if want := chacha.Crypt(s.Key, s.Nonce, s.N, s.B); !bytes.Equal(out[i], want) {
			t.Fatalf("P14.1: ChaCha of texts of %v bytes, the one at %d, from %d on: %x, not %x", long, i, s.N, out[i], want)
		}
	}
}

// lists calls do with each list of at most so many of these numbers.
func lists(most int, of []int, do func(l []int)) {
	var add func(l []int)
	add = func(l []int) {
		do(l)
		if len(l) == most {
			return
		}
		for _, n := range of {
			add(append(slices.Clone(l), n))
		}
	}
	add(nil)
}

func TestP141OfNoText(t *testing.T) {
	for _, l := range [][]weave.Counter{nil, {}, make([]weave.Counter, 3)[:0]} {
		if out, n := weave.CTR(l); len(out) != 0 || n != 0 {
			t.Errorf("P14.1: CTR of none = %x, %d", out, n)
		}
	}
	for _, l := range [][]weave.Stream{nil, {}, make([]weave.Stream, 3)[:0]} {
		if out, n := weave.ChaCha(l); len(out) != 0 || n != 0 {
			t.Errorf("P14.1: ChaCha of none = %x, %d", out, n)
		}
	}
}

// Empty texts have no block, and so no step, but a place of their own in what comes out.
func TestP141OfEmptyTexts(t *testing.T) {
	draw := drawn(1)
	for many := 1; many < 12; many++ {
		c, s := make([]weave.Counter, many), make([]weave.Stream, many)
		for i := range many {
			c[i].Keys = keys(t, draw(16))
			if i%2 == 0 {
				c[i].B, s[i].B = []byte{}, []byte{}
			}
		}
		x, n := weave.CTR(c)
		y, m := weave.ChaCha(s)
		if len(x) != many || n != 0 || len(y) != many || m != 0 {
			t.Errorf("P14.1: of %d empty texts: %x, %d steps; %x, %d steps", many, x, n, y, m)
		}
		for i := range many {
			if len(x[i]) != 0 || len(y[i]) != 0 {
				t.Errorf("P14.1: of an empty text: %x, %x", x[i], y[i])
			}
		}
	}
	for _, long := range [][]int{{0, 5}, {5, 0}, {0, 0, 200, 0, 0, 1, 0}, {16, 0, 16, 0, 0, 64, 0}, {128, 0, 0}, {0, 0, 256}, {256, 0, 0, 256, 0}} {
		lookCTR(t, counters(t, draw, long))
		lookChaCha(t, streams(draw, long))
	}
}

// The examples of SP 800-38A (F.5) and of RFC 3686, keys of 16 and 32 bytes together, in both orders: they hang on no layer of the program.
func TestP141CTROfTheStandards(t *testing.T) {
	const (
		short  = "2b7e151628aed2a6abf7158809cf4f3c"
		long   = "603deb1015ca71be2b73aef0857d77811f352c073b6108d72d9810a30914dff4"
		first  = "f0f1f2f3f4f5f6f7f8f9fafbfcfdfeff"
		text   = "6bc1bee22e409f96e93d7e117393172aae2d8a571e03ac9c9eb76fac45af8e5130c81c46a35ce411e5fbc1191a0a52eff69f2445df4f9b17ad2b417be66c3710"
		counts = "000102030405060708090a0b0c0d0e0f101112131415161718191a1b1c1d1e1f20212223"
	)
	var l []weave.Counter
	var want []string
	for _, c := range []struct{ key, iv, text, want string }{
		{short, first, text, "874d6191b620e3261bef6864990db6ce9806f66b7970fdff8617187bb9fffdff5ae4df3edbd5d35e5b4f09020db03eab1e031dda2fbe03d1792170a0f3009cee"},
		{"7691be035e5020a8ac6e618529f9a0dc", "00e0017b27777f3f4a1786f000000001", counts, "c1cf48a89f2ffdd9cf4652e9efdb72d74540a42bde6d7836d59a5ceaaef3105325b2072f"},
		{long, first, text, "601ec313775789a5b7a7f504bbf3d228f443e3ca4d62b59aca84e990cacaf5c52b0930daa23de94ce87017ba2d84988ddfc9c58db67aada613c2dd08457941a6"},
		{"ff7a617ce69148e4f1726e2f43581de2aa62d9f805532edff1eed687fb54153d", "001cc5b751a51d70a1c1114800000001", counts, "eb6c52821d0bbbf7ce7594462aca4faab407df866569fd07f48cc0b583d6071f1ec0e6b8"},
	} {
		l = append(l, weave.Counter{Keys: keys(t, read(t, c.key)), IV: [16]byte(read(t, c.iv)), B: read(t, c.text)})
		want = append(want, c.want)
	}
	for range 2 {
		out, n := weave.CTR(l)
		if len(out) != 4 || n != 2 { // 4 + 3 + 4 + 3 blocks
			t.Fatalf("P14.1: %d texts, %d steps", len(out), n)
		}
		for i := range l {
			if got := hex.EncodeToString(out[i]); got != want[i] {
				t.Errorf("P14.1: CTR of the text %d: %s, not %s", i, got, want[i])
			}
		}
		slices.Reverse(l)
		slices.Reverse(want)
	}
}

// The examples of RFC 8439.
func TestP141ChaChaOfTheStandard(t *testing.T) {
	const (
		sunscreen = "Ladies and Gentlemen of the class of '99: If I could offer you only one tip for the future, sunscreen would be it."
		zeros     = "76b8e0ada0f13d90405d6ae55386bd28bdd219b8a08ded1aa836efcc8b770dc7da41597c5157488d7724e03fb8d84a376a43b8f41518a11cc387b669b2ee6586"
		zerosNext = "9f07e7be5551387a98ba977c732d080dcb0f29a048e3656912c6533e32ee7aed29b721769ce64e43d57133b074d839d531ed1f28510afb45ace10a1f4b794d6f"
		secondKey = "72d54dfbf12ec44b362692df94137f328fea8da73990265ec1bbbea1ae9af0ca13b25aa26cb4a648cb9b9d1be65b2c0924a66c54d545ec1b7374f4872e99f096"
	)
	var count, second [32]byte
	for i := range count {
		count[i] = byte(i)
	}
	second[1] = 255
	l := []weave.Stream{
		{B: make([]byte, 128)},
		{Key: count, Nonce: [12]byte{7: 0x4a}, N: 1, B: []byte(sunscreen)},
		{Key: second, N: 2, B: make([]byte, 64)},
		{N: 1, B: make([]byte, 20)},
	}
	want := []string{
		zeros + zerosNext,
		"6e2e359a2568f98041ba0728dd0d6981e97e7aec1d4360c20a27afccfd9fae0bf91b65c5524733ab8f593dabcd62b3571639d624e65152ab8f530c359f0861d807ca0dbf500d6a6156a38e088a22b65e52bc514d16ccf806818ce91ab77937365af90bbf74a35be6b40b8eedf2785e42874d",
		secondKey,
		zerosNext[:40],
	}
	for range 2 {
		out, n := weave.ChaCha(l)
		if len(out) != 4 || n != 2 { // 2 + 2 + 1 + 1 blocks
			t.Fatalf("P14.1: %d texts, %d steps", len(out), n)
		}
		for i := range l {
			if got := hex.EncodeToString(out[i]); got != want[i] {
				t.Errorf("P14.1: ChaCha of the text %d: %s, not %s", i, got, want[i])
			}
		}
		slices.Reverse(l)
		slices.Reverse(want)
	}
}

// One text, about the ends of blocks and of steps.
func TestP141OfOneText(t *testing.T) {
	draw := drawn(2)
	for n := range 16*8*2 + 20 {
		lookCTR(t, counters(t, draw, []int{n}))
	}
	for n := range 64*4*2 + 70 {
		lookChaCha(t, streams(draw, []int{n}))
	}
}

// Every list of up to four texts: of none, of a part of a block, of one, of some and a part, of as many as a step has, and more.
func TestP141EveryShortList(t *testing.T) {
	draw := drawn(3)
	lists(4, []int{0, 5, 16, 33, 128, 130}, func(long []int) { lookCTR(t, counters(t, draw, long)) })
	lists(4, []int{0, 5, 64, 129, 256, 260}, func(long []int) { lookChaCha(t, streams(draw, long)) })
}

// Many texts share a step, and many steps a text: text by text, each step is full but the last one.
func TestP141OfManyTexts(t *testing.T) {
	draw := drawn(4)
	for many := range 40 {
		lookCTR(t, counters(t, draw, slices.Repeat([]int{1}, many)))
		lookCTR(t, counters(t, draw, slices.Repeat([]int{16}, many)))
		lookCTR(t, counters(t, draw, slices.Repeat([]int{17}, many)))
		lookChaCha(t, streams(draw, slices.Repeat([]int{1}, many)))
		lookChaCha(t, streams(draw, slices.Repeat([]int{64}, many)))
		lookChaCha(t, streams(draw, slices.Repeat([]int{65}, many)))
	}
	for range 100 {
		var long []int
		for range int(draw(1)[0]) % 20 {
			d := draw(2)
			long = append(long, []int{int(d[0]), 16 * int(d[0]%9), 64 * int(d[0]%6), int(d[0] % 3)}[d[1]%4])
		}
		lookCTR(t, counters(t, draw, long))
		lookChaCha(t, streams(draw, long))
	}
}

// How many steps there are, written out.
func TestP142HowManySteps(t *testing.T) {
	draw := drawn(5)
	for _, c := range []struct {
		long        []int
		ctr, chacha int
	}{
		{[]int{1}, 1, 1},
		{[]int{128}, 1, 1},
		{[]int{129}, 2, 1},
		{[]int{256}, 2, 1},
		{[]int{257}, 3, 2},
		{[]int{70, 70}, 2, 1},
		{[]int{1, 1, 1, 1}, 1, 1},
		{[]int{1, 1, 1, 1, 1}, 1, 2},
		{[]int{1, 1, 1, 1, 1, 1, 1, 1}, 1, 2},
		{[]int{1, 1, 1, 1, 1, 1, 1, 1, 1}, 2, 3},
		{[]int{113, 15, 0, 1}, 2, 1},
		{[]int{112, 16}, 1, 1},
		{[]int{1000, 1000, 1000}, 24, 12},
	} {
		_, n := weave.CTR(counters(t, draw, c.long))
		_, m := weave.ChaCha(streams(draw, c.long))
		if n != c.ctr || m != c.chacha {
			t.Errorf("P14.2: texts of %v bytes: %d steps, not %d; %d, not %d", c.long, n, c.ctr, m, c.chacha)
		}
	}
}

// Behind the greatest counter the next one is 0: of AES's all 128 bits go round, of ChaCha20's 32, and its nonce is as it was.
func TestP141CountersGoRound(t *testing.T) {
	draw := drawn(6)
	k, key, nonce := keys(t, draw(32)), [32]byte(draw(32)), [12]byte(draw(12))
	full := [16]byte(bytes.Repeat([]byte{255}, 16))
	half := [16]byte{8: 255, 9: 255, 10: 255, 11: 255, 12: 255, 13: 255, 14: 255, 15: 255}
	noughts := func(n int) []byte { return make([]byte, n) }
	x, _ := weave.CTR([]weave.Counter{{k, full, noughts(48)}, {k, half, noughts(32)}, {k, [16]byte{}, noughts(16)}})
	var want []byte
	for _, iv := range [][16]byte{full, {}, {15: 1}, half, {7: 1}, {}} {
		b := k.Encrypt(iv)
		want = append(want, b[:]...)
	}
	if got := bytes.Join(x, nil); !bytes.Equal(got, want) {
		t.Errorf("P14.1: CTR of noughts about the counter's end: %x, not %x", got, want)
	}
	y, _ := weave.ChaCha([]weave.Stream{{key, nonce, math.MaxUint32 - 1, noughts(256)}, {key, nonce, math.MaxUint32, noughts(128)}, {key, nonce, 0, noughts(64)}})
	want = nil
	for _, n := range []uint32{math.MaxUint32 - 1, math.MaxUint32, 0, 1, math.MaxUint32, 0, 0} {
		b := chacha.Block(key, nonce, n)
		want = append(want, b[:]...)
	}
	if got := bytes.Join(y, nil); !bytes.Equal(got, want) {
		t.Errorf("P14.1: ChaCha of noughts about the counter's end: %x, not %x", got, want)
	}
}

// A text that is crypted twice, among others, is what it was; beyond 256 blocks, too.
func TestP141OfLongTexts(t *testing.T) {
	draw := drawn(7)
	long := []int{16*300 + 3, 7, 64 * 70, 0, 16 * 256}
	c, s := counters(t, draw, long), streams(draw, long)
	lookCTR(t, c)
	lookChaCha(t, s)
	x, _ := weave.CTR(c)
	y, _ := weave.ChaCha(s)
	texts := [2][][]byte{}
	for i := range long {
		texts[0], texts[1] = append(texts[0], c[i].B), append(texts[1], s[i].B)
		c[i].B, s[i].B = x[i], y[i]
	}
	x, _ = weave.CTR(c)
	y, _ = weave.ChaCha(s)
	if !same(x, texts[0]) || !same(y, texts[1]) {
		t.Error("P14.1: crypted twice a text is another one")
	}
}

// Of keys that are nil, or wiped, or were never made, the blocks are noughts, as layer 8 tells: those of the others are not.
func TestP141KeysThatAreNone(t *testing.T) {
	draw := drawn(8)
	l := counters(t, draw, []int{40, 50, 60, 70, 33})
	l[0].Keys, l[2].Keys, l[3].Keys, l[4].Keys = nil, wiped(t, draw(32)), wiped(t, draw(16)), &aes.Keys{}
	lookCTR(t, l)
	out, _ := weave.CTR(l)
	for i, c := range l {
		if bytes.Equal(out[i], c.B) != (i != 1) {
			t.Errorf("P14.1: CTR of the text %d, %x: %x", i, c.B, out[i])
		}
	}
	lookCTR(t, make([]weave.Counter, 10))
	lookCTR(t, []weave.Counter{{B: []byte("a text by no keys")}})
}

// What comes of a text is the same wherever it stands, and whatever stands by it; it may stand there twice.
func TestP142EachTextAlone(t *testing.T) {
	draw := drawn(9)
	for _, n := range []int{0, 1, 15, 16, 17, 63, 64, 65, 128, 129, 256, 300} {
		c, s := counters(t, draw, []int{n})[0], streams(draw, []int{n})[0]
		x, y := ctr.Crypt(c.Keys, c.IV, c.B), chacha.Crypt(s.Key, s.Nonce, s.N, s.B)
		for at := range 9 {
			var long []int
			for range 9 {
				long = append(long, int(draw(1)[0]))
			}
			l, m := counters(t, draw, long), streams(draw, long)
			l[at], l[8], m[at], m[8] = c, c, s, s
			out, _ := weave.CTR(l)
			if !bytes.Equal(out[at], x) || !bytes.Equal(out[8], x) {
				t.Fatalf("P14.2: CTR of a text of %d bytes at %d, among %v: %x, not %x", n, at, long, out[at], x)
			}
			out, _ = weave.ChaCha(m)
			if !bytes.Equal(out[at], y) || !bytes.Equal(out[8], y) {
				t.Fatalf("P14.2: ChaCha of a text of %d bytes at %d, among %v: %x, not %x", n, at, long, out[at], y)
			}
		}
	}
}

// One other bit of a text turns that bit of what comes of it, and nothing else.
func TestP142OneOtherBit(t *testing.T) {
	draw := drawn(10)
	long := []int{20, 0, 70, 16, 64, 1}
	c, s := counters(t, draw, long), streams(draw, long)
	x, n := weave.CTR(c)
	y, m := weave.ChaCha(s)
	for i := range long {
		for _, at := range []int{0, long[i] / 2, long[i] - 1} {
			if long[i] == 0 {
				continue
			}
			c[i].B[at], s[i].B[at] = c[i].B[at]^4, s[i].B[at]^4
			turned, k := weave.CTR(c)
			others, l := weave.ChaCha(s)
			c[i].B[at], s[i].B[at] = c[i].B[at]^4, s[i].B[at]^4
			turned[i][at], others[i][at] = turned[i][at]^4, others[i][at]^4
			if !same(turned, x) || !same(others, y) || k != n || l != m {
				t.Errorf("P14.2: another bit at %d of the text %d turns something else", at, i)
			}
		}
	}
}

// Another key, IV, nonce or counter of one text turns none of the others.
func TestP142OtherKeys(t *testing.T) {
	draw := drawn(11)
	long := []int{30, 100, 20, 70}
	c, s := counters(t, draw, long), streams(draw, long)
	x, _ := weave.CTR(c)
	y, _ := weave.ChaCha(s)
	for i := range long {
		for what := range 3 {
			l, m := slices.Clone(c), slices.Clone(s)
			switch what {
			case 0:
				l[i].Keys, m[i].Key[31] = keys(t, draw(32)), ^m[i].Key[31]
			case 1:
				l[i].IV[0], m[i].Nonce[11] = ^l[i].IV[0], ^m[i].Nonce[11]
			case 2:
				l[i].IV[15], m[i].N = l[i].IV[15]+1, m[i].N+1
			}
			turned, _ := weave.CTR(l)
			others, _ := weave.ChaCha(m)
			for j := range long {
				if bytes.Equal(turned[j], x[j]) != (i != j) || bytes.Equal(others[j], y[j]) != (i != j) {
					t.Errorf("P14.2: the text %d by another key, IV or counter: the text %d is %x, and was %x; %x, and was %x", i, j, turned[j], x[j], others[j], y[j])
				}
			}
		}
	}
}

func TestR4NothingHandedInIsChanged(t *testing.T) {
	draw := drawn(12)
	const spare = 70
	long := []int{0, 1, 15, 16, 17, 63, 64, 65, 128, 200}
	c, s := counters(t, draw, long), streams(draw, long)
	var whole [][]byte
	for i, n := range long {
		b := draw(n + spare)
		c[i].B, s[i].B = b[:n], b[:n]
		whole = append(whole, b)
	}
	behind := []byte("behind the end")
	c, s = append(c, weave.Counter{B: behind}), append(s, weave.Stream{B: behind, N: 7})
	before := copied(whole)
	var sameKeys []aes.Keys
	var sameIVs [][16]byte
	for _, x := range c[:len(long)] {
		sameKeys, sameIVs = append(sameKeys, *x.Keys), append(sameIVs, x.IV)
	}
	sameStreams := slices.Clone(s)
	x, _ := weave.CTR(c[:len(long)])
	y, _ := weave.ChaCha(s[:len(long)])
	if !same(whole, before) {
		t.Error("R4: a text, or the room behind it, was changed")
	}
	for i, n := range long {
		if *c[i].Keys != sameKeys[i] || c[i].IV != sameIVs[i] || len(c[i].B) != n || &c[i].B[:1][0] != &whole[i][0] {
			t.Errorf("R4: CTR changed the row %d", i)
		}
		if f, g := s[i], sameStreams[i]; f.Key != g.Key || f.Nonce != g.Nonce || f.N != g.N || len(f.B) != n || &f.B[:1][0] != &whole[i][0] {
			t.Errorf("R4: ChaCha changed the row %d", i)
		}
		for j := n; j < len(whole[i]); j++ { // the room behind has no say
			whole[i][j] ^= 255
		}
	}
	if string(c[len(long)].B) != "behind the end" || string(s[len(long)].B) != "behind the end" || s[len(long)].N != 7 {
		t.Error("R4: the room behind a list was changed")
	}
	again, _ := weave.CTR(c[:len(long)])
	more, _ := weave.ChaCha(s[:len(long)])
	if !same(again, x) || !same(more, y) {
		t.Error("R4: what stands behind the texts changed what comes of them")
	}
}

func TestR4NothingIsKeptAndWhatIsHandedOutIsNew(t *testing.T) {
	draw := drawn(13)
	long := []int{5, 16, 0, 100, 64, 1}
	c, s := counters(t, draw, long), streams(draw, long)
	c[5].Keys = nil // by noughts a text comes out as it is: yet in memory of its own
	x, _ := weave.CTR(c)
	y, _ := weave.ChaCha(s)
	wantX, wantY := copied(x), copied(y)
	for _, other := range []func() ([][]byte, int){func() ([][]byte, int) { return weave.CTR(c) }, func() ([][]byte, int) { return weave.ChaCha(s) }} {
		out, _ := other()
		var texts [][]byte
		for i := range long {
			texts = append(texts, bytes.Clone(c[i].B), bytes.Clone(s[i].B))
		}
		for i, b := range out {
			want := copied(out[i+1:])
			clear(b[:cap(b)])
			if !same(out[i+1:], want) {
				t.Errorf("R4: the text %d shares memory with those behind it", i)
			}
		}
		clear(out[:cap(out)])
		for i := range long {
			if !bytes.Equal(c[i].B, texts[2*i]) || !bytes.Equal(s[i].B, texts[2*i+1]) {
				t.Errorf("R4: what comes of the text %d shares memory with it", i)
			}
		}
	}
	for i := range long {
		c[i].Keys.Wipe()
		clear(c[i].B)
		clear(s[i].B)
	}
	clear(c)
	clear(s)
	if !same(x, wantX) || !same(y, wantY) {
		t.Error("R4: what comes of texts hangs on what was done with them, or with another answer, later on")
	}
}

// What came ahead, by these keys or others, is not to be seen.
func TestR5SameEachTime(t *testing.T) {
	draw := drawn(14)
	long := []int{30, 0, 200, 64}
	c, s := counters(t, draw, long), streams(draw, long)
	x, n := weave.CTR(c)
	y, m := weave.ChaCha(s)
	for range 20 {
		weave.CTR(counters(t, draw, []int{100, 3}))
		weave.ChaCha(streams(draw, []int{100, 3}))
		again, k := weave.CTR(c)
		more, l := weave.ChaCha(s)
		if !same(again, x) || !same(more, y) || k != n || l != m {
			t.Fatal("R5: the same call answers otherwise")
		}
	}
}

func TestExampleOfTheChapter(t *testing.T) {
	k, text := keys(t, drawn(15)(16)), []byte(strings.Repeat("seventy", 10))
	if out, n := weave.CTR([]weave.Counter{{Keys: k, B: text}, {Keys: k, B: text}}); len(out) != 2 || n != 2 {
		t.Errorf("example 1: %d texts, %d steps", len(out), n)
	}
}
