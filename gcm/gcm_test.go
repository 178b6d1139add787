package gcm_test

import (
	"bytes"
	"encoding/hex"
	"math/big"
	"testing"

	"palfrey/aes"
	"palfrey/api"
	"palfrey/gcm"
	"palfrey/ghash"
)

// read reads bytes written in hex.
func read(t *testing.T, s string) []byte {
	t.Helper()
	b, e := hex.DecodeString(s)
	if e != nil {
		t.Fatal(e)
	}
	return b
}

// keys expands a key that may be one.
func keys(t *testing.T, key []byte) *aes.Keys {
	t.Helper()
	k, e := aes.Expand(key)
	if e != api.OK {
		t.Fatalf("Expand(%x): %d", key, e)
	}
	return k
}

// none are keys that are none: nil, wiped ones of both lengths, and one that Expand did not make.
func none(t *testing.T) []*aes.Keys {
	t.Helper()
	short, long := keys(t, make([]byte, 16)), keys(t, make([]byte, 32))
	short.Wipe()
	long.Wipe()
	return []*aes.Keys{nil, short, long, {}}
}

// drawn makes bytes that look like chance, and are the same each time.
func drawn(seed uint64) func(n int) []byte {
	return func(n int) []byte {
		b := make([]byte, n)
		for i := range b {
			seed = seed*6364136223846793005 + 1442695040888963407
			b[i] = byte(seed >> 56)
		}
		return b
	}
}

// lengths are of no bytes, and of those about the ends of blocks.
func lengths() []int { return []int{0, 1, 2, 7, 15, 16, 17, 31, 32, 33, 47, 48, 49} }

// xor is both by exclusive or.
func xor(a, b [16]byte) [16]byte {
	for i := range a {
		a[i] ^= b[i]
	}
	return a
}

// product is that of two blocks, as layer 6's chapter has it, on numbers of any length.
func product(a, b [16]byte) [16]byte {
	sum, modulus := new(big.Int), new(big.Int)
	for i := range 128 {
		for j := range 128 {
			if a[i/8]>>(7-i%8)&1 == 1 && b[j/8]>>(7-j%8)&1 == 1 {
				sum.SetBit(sum, i+j, sum.Bit(i+j)^1)
			}
		}
	}
	for _, i := range []int{128, 7, 2, 1, 0} {
		modulus.SetBit(modulus, i, 1)
	}
	for i := 255; i >= 128; i-- {
		if sum.Bit(i) == 1 {
			sum.Xor(sum, new(big.Int).Lsh(modulus, uint(i-128)))
		}
	}
	var out [16]byte
	for i := range 128 {
		out[i/8] |= byte(sum.Bit(i)) << (7 - i%8)
	}
	return out
}

// whole is b with noughts behind, to whole blocks.
func whole(b []byte) []byte {
	b = bytes.Clone(b)
	for len(b)%16 != 0 {
		b = append(b, 0)
	}
	return b
}

// eightfold is 8 times n, as 8 bytes, the highest one first.
func eightfold(n int) []byte { return big.NewInt(8 * int64(n)).FillBytes(make([]byte, 8)) }

// slowHash is the hash of two rows and their lengths; of an IV the first row has no bytes.
func slowHash(k *aes.Keys, aad, b []byte) [16]byte {
	all := append(whole(aad), whole(b)...)
	all = append(append(all, eightfold(len(aad))...), eightfold(len(b))...)
	h, sum := k.Encrypt([16]byte{}), [16]byte{}
	for i := 0; i < len(all); i += 16 {
		sum = product(xor(sum, [16]byte(all[i:])), h)
	}
	return sum
}

// slowFirst is the first counter by the chapter's words.
func slowFirst(k *aes.Keys, iv []byte) [16]byte {
	if len(iv) == 12 {
		return [16]byte(append(bytes.Clone(iv), 0, 0, 0, 1))
	}
	return slowHash(k, nil, iv)
}

// slowCrypt is b with the text's counters, byte by byte, the last four bytes as a great number.
func slowCrypt(k *aes.Keys, first [16]byte, b []byte) []byte {
	last, all := new(big.Int).SetBytes(first[12:]), new(big.Int).Lsh(big.NewInt(1), 32)
	var out []byte
	for i := range b {
		n := new(big.Int).Add(last, big.NewInt(int64(i/16+1)))
		n.Mod(n, all)
		counter := append(bytes.Clone(first[:12]), n.FillBytes(make([]byte, 4))...)
		block := k.Encrypt([16]byte(counter))
		out = append(out, b[i]^block[i%16])
	}
	return out
}

// slow seals as the chapter's words say.
func slow(k *aes.Keys, iv, aad, b []byte) []byte {
	first := slowFirst(k, iv)
	sealed := slowCrypt(k, first, b)
	tag := xor(slowHash(k, aad, sealed), k.Encrypt(first))
	return append(sealed, tag[:]...)
}

// inverse is what h is to be multiplied by to get 1: h to the power of 2^128 - 2.
func inverse(h [16]byte) [16]byte {
	out := [16]byte{128}
	for range 127 {
		h = ghash.Mul(h, h)
		out = ghash.Mul(out, h)
	}
	return out
}

// leading is the IV of 16 bytes whose first counter is that one: its hash undone, the last step first.
func leading(k *aes.Keys, first [16]byte) []byte {
	back := inverse(k.Encrypt([16]byte{}))
	sum := xor(ghash.Mul(first, back), [16]byte{15: 128})
	iv := ghash.Mul(sum, back)
	return iv[:]
}

// shut looks whether what can't be opened is answered so.
func shut(t *testing.T, what string, want api.Errno, k *aes.Keys, iv, aad, b []byte) {
	t.Helper()
	if got, e := gcm.Open(k, iv, aad, b); e != want || len(got) != 0 {
		t.Errorf("%s: Open(%x, %x, %x) = %x, %d, not %d", what, iv, aad, b, got, e, want)
	}
}

// there looks whether b is sealed to what it should be, and that is opened to b.
func there(t *testing.T, k *aes.Keys, iv, aad, b, want []byte) {
	t.Helper()
	got, e := gcm.Seal(k, iv, aad, b)
	if e != api.OK || !bytes.Equal(got, want) {
		t.Fatalf("P10.1: Seal(%x, %x, %x) = %x, %d, not %x", iv, aad, b, got, e, want)
	}
	if back, e := gcm.Open(k, iv, aad, got); e != api.OK || !bytes.Equal(back, b) {
		t.Fatalf("P10.2: Open(%x, %x, %x) = %x, %d, not %x", iv, aad, got, back, e, b)
	}
}

const (
	nought = "00000000000000000000000000000000"
	short  = "feffe9928665731c6d6a8f9467308308"
	twelve = "cafebabefacedbaddecaf888"
	sixty  = "9313225df88406e555909c5aff5269aa6a7a9538534f7da1e4c303d2a318a728c3c0c95156809539fcf0e2429a6b525416aedbf5a0de6a57a637b39b"
	text   = "d9313225f88406e5a55909c5aff5269a86a7a9531534f7da2e4c303d8a318a721c3c0c95956809532fcf0e2449a6b525b16aedf5aa0de657ba637b391aafd255"
	extra  = "feedfacedeadbeeffeedfacedeadbeefabaddad2"
)

// The examples of GCM's authors, which the standard names: all of the keys of 16 and 32 bytes.
func TestP101OfTheStandard(t *testing.T) {
	for _, c := range []struct{ key, iv, aad, text, want string }{
		{nought, nought[:24], "", "", "58e2fccefa7e3061367f1d57a4e7455a"},
		{nought, nought[:24], "", nought, "0388dace60b6a392f328c2b971b2fe78ab6e47d42cec13bdf53a67b21257bddf"},
		{short, twelve, "", text, "42831ec2217774244b7221b784d0d49ce3aa212f2c02a4e035c17e2329aca12e21d514b25466931c7d8f6a5aac84aa051ba30b396a0aac973d58e091473f59854d5c2af327cd64a62cf35abd2ba6fab4"},
		{short, twelve, extra, text[:120], "42831ec2217774244b7221b784d0d49ce3aa212f2c02a4e035c17e2329aca12e21d514b25466931c7d8f6a5aac84aa051ba30b396a0aac973d58e0915bc94fbc3221a5db94fae95ae7121a47"},
		{short, twelve[:16], extra, text[:120], "61353b4c2806934a777ff51fa22a4755699b2a714fcdc6f83766e5f97b6c742373806900e49f24b22b097544d4896b424989b5e1ebac0f07c23f45983612d2e79e3b0785561be14aaca2fccb"},
		{short, sixty, extra, text[:120], "8ce24998625615b603a033aca13fb894be9112a5c3a211a8ba262a3cca7e2ca701e4a9a4fba43c90ccdcb281d48c7c6fd62875d2aca417034c34aee5619cc5aefffe0bfa462af43c1699d050"},
		{nought + nought, nought[:24], "", "", "530f8afbc74536b9a963b4f1c4cb738b"},
		{nought + nought, nought[:24], "", nought, "cea7403d4d606b6e074ec5d3baf39d18d0d1c8a799996bf0265b98b5d48ab919"},
		{short + short, twelve, "", text, "522dc1f099567d07f47f37a32a84427d643a8cdcbfe5c0c97598a2bd2555d1aa8cb08e48590dbb3da7b08b1056828838c5f61e6393ba7a0abcc9f662898015adb094dac5d93471bdec1a502270e3cc6c"},
		{short + short, twelve, extra, text[:120], "522dc1f099567d07f47f37a32a84427d643a8cdcbfe5c0c97598a2bd2555d1aa8cb08e48590dbb3da7b08b1056828838c5f61e6393ba7a0abcc9f66276fc6ece0f4e1768cddf8853bb2d551b"},
		{short + short, twelve[:16], extra, text[:120], "c3762df1ca787d32ae47c13bf19844cbaf1ae14d0b976afac52ff7d79bba9de0feb582d33934a4f0954cc2363bc73f7862ac430e64abe499f47c9b1f3a337dbf46a792c45e454913fe2ea8f2"},
		{short + short, sixty, extra, text[:120], "5a8def2f0c9e53f1f75d7853659e2a20eeb2b22aafde6419a058ab4f6f746bf40fc0c3b780f244452da3ebf1c5d82cdea2418997200ef82e44ae7e3fa44a8266ee1c8eb0c8b5d4cf5ae9f19a"},
	} {
		k, iv, aad := keys(t, read(t, c.key)), read(t, c.iv), read(t, c.aad)
		there(t, k, iv, aad, read(t, c.text), read(t, c.want))
	}
}

func TestP101FirstOfTwelve(t *testing.T) {
	draw := drawn(1)
	for _, long := range []int{16, 32} {
		for _, iv := range [][]byte{make([]byte, 12), bytes.Repeat([]byte{255}, 12), draw(12), draw(12)} {
			want := [16]byte(append(bytes.Clone(iv), 0, 0, 0, 1))
			if got := gcm.First(keys(t, draw(long)), iv); got != want { // whatever the key is
				t.Errorf("P10.1: First(%x) = %x, not %x", iv, got, want)
			}
		}
	}
}

// The first counters of the standard's IVs that have not 12 bytes.
func TestP101FirstOfTheStandard(t *testing.T) {
	for _, c := range []struct{ iv, want string }{
		{twelve, twelve + "00000001"},
		{twelve[:16], "c43a83c4c4badec4354ca984db252f7d"},
		{sixty, "3bab75780a31c059f83d2a44752f9864"},
	} {
		if got := gcm.First(keys(t, read(t, short)), read(t, c.iv)); hex.EncodeToString(got[:]) != c.want {
			t.Errorf("P10.1: First(%s) = %x, not %s", c.iv, got, c.want)
		}
	}
}

func TestP101FirstAgainstTheChaptersWords(t *testing.T) {
	draw := drawn(2)
	for _, long := range []int{16, 32} {
		k := keys(t, draw(long))
		for n := 1; n < 66; n++ { // about the end of a block, and of two, and so on
			for _, iv := range [][]byte{draw(n), make([]byte, n), bytes.Repeat([]byte{255}, n)} {
				if got, want := gcm.First(k, iv), slowFirst(k, iv); got != want {
					t.Fatalf("P10.1: First(%x) = %x, not %x", iv, got, want)
				}
			}
		}
		for _, n := range []int{255, 256, 257, 1000} {
			iv := draw(n)
			if got, want := gcm.First(k, iv), slowFirst(k, iv); got != want {
				t.Errorf("P10.1: First of %d bytes = %x, not %x", n, got, want)
			}
		}
	}
}

// Noughts behind an IV make another one of it, though they fill the same block.
func TestP101FirstCountsNoughts(t *testing.T) {
	k, seen := keys(t, drawn(3)(16)), map[[16]byte]int{}
	for n := 1; n < 50; n++ {
		first := gcm.First(k, make([]byte, n))
		if before, was := seen[first]; was {
			t.Errorf("P10.1: First of %d noughts is that of %d", n, before)
		}
		seen[first] = n
	}
}

func TestP101FirstOfNone(t *testing.T) {
	draw := drawn(4)
	for _, k := range none(t) {
		for _, iv := range [][]byte{nil, {}, draw(1), draw(11), draw(12), draw(13), draw(16), draw(64)} {
			if got := gcm.First(k, iv); got != [16]byte{} {
				t.Errorf("P10.1: First by no keys of %x = %x", iv, got)
			}
		}
	}
	for _, long := range []int{16, 32} {
		for _, iv := range [][]byte{nil, {}, bytes.Repeat([]byte{255}, 40)[:0]} {
			if got := gcm.First(keys(t, draw(long)), iv); got != [16]byte{} {
				t.Errorf("P10.1: First of an empty IV = %x", got)
			}
		}
	}
}

func TestP101SealAgainstTheChaptersWords(t *testing.T) {
	draw := drawn(5)
	for _, long := range []int{16, 32} {
		for _, many := range lengths() {
			for _, n := range lengths() {
				k, iv, aad, b := keys(t, draw(long)), draw(12), draw(many), draw(n)
				there(t, k, iv, aad, b, slow(k, iv, aad, b))
			}
		}
		for n := 1; n < 66; n++ {
			k, iv, aad, b := keys(t, draw(long)), draw(n), draw(n%19), draw(n%35)
			there(t, k, iv, aad, b, slow(k, iv, aad, b))
		}
	}
	k, iv, aad, b := keys(t, draw(32)), draw(12), draw(1000), draw(16*260+3) // beyond 256 counters
	there(t, k, iv, aad, b, slow(k, iv, aad, b))
}

// What is of noughts alone counts by its length: behind a text, and behind an aad.
func TestP101Noughts(t *testing.T) {
	k, iv := keys(t, drawn(6)(16)), make([]byte, 12)
	for _, many := range lengths() {
		for _, n := range lengths() {
			aad, b := make([]byte, many), make([]byte, n)
			there(t, k, iv, aad, b, slow(k, iv, aad, b))
		}
	}
}

// The last four bytes of a counter alone count up: nothing is carried ahead of them, wherever they go round.
func TestP101CounterGoesRound(t *testing.T) {
	draw := drawn(7)
	for _, long := range []int{16, 32} {
		k := keys(t, draw(long))
		for _, ahead := range [][]byte{make([]byte, 12), bytes.Repeat([]byte{255}, 12), draw(12)} {
			for _, last := range []string{"ffffffff", "fffffffe", "fffffffd", "fffffffc", "7fffffff", "00ffffff", "0000ffff", "000000ff", "00000000"} {
				first := [16]byte(append(bytes.Clone(ahead), read(t, last)...))
				iv := leading(k, first)
				if got := gcm.First(k, iv); got != first {
					t.Fatalf("P10.1: First(%x) = %x, not %x", iv, got, first)
				}
				for _, n := range []int{0, 1, 15, 16, 17, 32, 33, 48, 49, 64, 65, 80} {
					aad, b := draw(n%21), draw(n)
					there(t, k, iv, aad, b, slow(k, iv, aad, b))
				}
			}
		}
	}
}

// The counters behind one that ends in 255s, written out.
func TestP101CountersWrittenOut(t *testing.T) {
	k := keys(t, drawn(8)(16))
	iv := leading(k, [16]byte(read(t, "0102030405060708090a0b0cfffffffe")))
	var want []byte
	for _, s := range []string{"0102030405060708090a0b0cffffffff", "0102030405060708090a0b0c00000000", "0102030405060708090a0b0c00000001"} {
		block := k.Encrypt([16]byte(read(t, s)))
		want = append(want, block[:]...)
	}
	if got, e := gcm.Seal(k, iv, nil, make([]byte, 48)); e != api.OK || !bytes.Equal(got[:48], want) {
		t.Errorf("P10.1: noughts sealed = %x, %d, not %x", got, e, want)
	}
}

// Keys that are none are told first, then an IV of no bytes, then that there are too few.
func TestP101WrongInputs(t *testing.T) {
	draw := drawn(9)
	k := keys(t, draw(16))
	sealed, _ := gcm.Seal(k, draw(12), nil, draw(20))
	for _, b := range [][]byte{nil, {}, draw(1), draw(15), draw(16), draw(40), sealed} {
		for _, aad := range [][]byte{nil, {}, draw(5)} {
			for _, iv := range [][]byte{nil, {}, draw(1), draw(12), draw(16)} {
				for _, no := range none(t) {
					if got, e := gcm.Seal(no, iv, aad, b); e != api.ErrKey || len(got) != 0 {
						t.Errorf("P10.1: Seal by no keys = %x, %d", got, e)
					}
					shut(t, "P10.1: no keys", api.ErrKey, no, iv, aad, b)
				}
			}
			for _, iv := range [][]byte{nil, {}, bytes.Repeat([]byte{255}, 40)[:0]} {
				if got, e := gcm.Seal(k, iv, aad, b); e != api.ErrIV || len(got) != 0 {
					t.Errorf("P10.1: Seal by no IV = %x, %d", got, e)
				}
				shut(t, "P10.1: no IV", api.ErrIV, k, iv, aad, b)
			}
		}
	}
}

// Keys that are wiped seal and open no more, though they did.
func TestP101WipedKeys(t *testing.T) {
	draw := drawn(10)
	for _, long := range []int{16, 32} {
		k, iv, aad := keys(t, draw(long)), draw(12), draw(3)
		sealed, e := gcm.Seal(k, iv, aad, draw(20))
		if e != api.OK {
			t.Fatalf("P10.1: Seal = %d", e)
		}
		k.Wipe()
		shut(t, "P10.1: wiped keys", api.ErrKey, k, iv, aad, sealed)
		if got, e := gcm.Seal(k, iv, aad, nil); e != api.ErrKey || len(got) != 0 {
			t.Errorf("P10.1: Seal by wiped keys = %x, %d", got, e)
		}
		if got := gcm.First(k, iv); got != [16]byte{} {
			t.Errorf("P10.1: First by wiped keys = %x", got)
		}
	}
}

func TestP101OpenOfTooFew(t *testing.T) {
	draw := drawn(11)
	for _, ivLong := range []int{1, 12, 16} {
		k, iv, aad := keys(t, draw(16)), draw(ivLong), draw(20)
		sealed, _ := gcm.Seal(k, iv, aad, nil)
		shut(t, "P10.1: nothing", api.ErrShort, k, iv, aad, nil)
		for n := range 16 { // also where the tag begins so
			shut(t, "P10.1: too few", api.ErrShort, k, iv, aad, sealed[:n])
			shut(t, "P10.1: too few", api.ErrShort, k, iv, nil, make([]byte, n))
		}
	}
}

// Of 16 bytes there is a tag alone, of nothing.
func TestP101OpenOfSixteen(t *testing.T) {
	draw := drawn(12)
	for _, many := range lengths() {
		k, iv, aad := keys(t, draw(32)), draw(12), draw(many)
		tag := slow(k, iv, aad, nil)
		if got, e := gcm.Open(k, iv, aad, tag); e != api.OK || len(got) != 0 {
			t.Errorf("P10.1: Open of a tag = %x, %d", got, e)
		}
		for _, b := range [][]byte{make([]byte, 16), bytes.Repeat([]byte{255}, 16), draw(16)} {
			shut(t, "P10.1: another tag", api.ErrTag, k, iv, aad, b)
		}
	}
}

func TestP102ThereAndBack(t *testing.T) {
	draw := drawn(13)
	for _, long := range []int{16, 32} {
		for n := range 70 {
			for _, ivLong := range []int{1, 11, 12, 13, 16, 17, 64} {
				k, iv, aad, b := keys(t, draw(long)), draw(ivLong), draw((3*n)%50), draw(n)
				sealed, e := gcm.Seal(k, iv, aad, b)
				if e != api.OK || len(sealed) != n+16 {
					t.Fatalf("P10.1: Seal of %d bytes: %d of them, %d", n, len(sealed), e)
				}
				if back, e := gcm.Open(k, iv, aad, sealed); e != api.OK || !bytes.Equal(back, b) {
					t.Fatalf("P10.2: %x was opened to %x, %d", b, back, e)
				}
			}
		}
	}
}

// One bit turned, each of the text, of the tag and of the aad, is seen.
func TestP102OneBitTurned(t *testing.T) {
	draw := drawn(14)
	for _, c := range []struct{ iv, aad, text int }{{12, 0, 0}, {12, 1, 0}, {12, 0, 1}, {12, 16, 16}, {16, 17, 15}, {1, 20, 33}, {60, 33, 17}} {
		k, iv, aad, b := keys(t, draw(16)), draw(c.iv), draw(c.aad), draw(c.text)
		sealed, _ := gcm.Seal(k, iv, aad, b)
		for _, row := range [][]byte{sealed, aad} {
			for i := range 8 * len(row) {
				row[i/8] ^= 1 << (i % 8)
				shut(t, "P10.2: one bit turned", api.ErrTag, k, iv, aad, sealed)
				row[i/8] ^= 1 << (i % 8)
			}
		}
		if back, e := gcm.Open(k, iv, aad, sealed); e != api.OK || !bytes.Equal(back, b) {
			t.Errorf("P10.2: %x was opened to %x, %d", b, back, e)
		}
	}
}

// Nor is what was cut, or made longer, or put from one to the other, or sealed by another key or IV.
func TestP102OtherInputs(t *testing.T) {
	draw := drawn(15)
	k, iv, aad, b := keys(t, draw(16)), draw(12), draw(20), draw(20)
	sealed, _ := gcm.Seal(k, iv, aad, b)
	cut := append(bytes.Clone(sealed[:19]), sealed[20:]...)
	longer := append(append(bytes.Clone(sealed[:20]), 0), sealed[20:]...)
	for _, x := range [][]byte{sealed[:35], sealed[1:], append(bytes.Clone(sealed), 0), cut, longer} {
		shut(t, "P10.2: another text", api.ErrTag, k, iv, aad, x)
	}
	for _, x := range [][]byte{nil, {}, aad[:19], aad[1:], append(bytes.Clone(aad), 0), append(bytes.Clone(aad), make([]byte, 12)...)} {
		shut(t, "P10.2: another aad", api.ErrTag, k, iv, x, sealed)
	}
	shut(t, "P10.2: put from the text to the aad", api.ErrTag, k, iv, append(bytes.Clone(aad), sealed[0]), sealed[1:])
	shut(t, "P10.2: put from the aad to the text", api.ErrTag, k, iv, aad[:19], append([]byte{aad[19]}, sealed...))
	for _, x := range [][]byte{draw(12), iv[:11], append(bytes.Clone(iv), 0), append(bytes.Clone(iv), 0, 0, 0, 1)} {
		shut(t, "P10.2: another IV", api.ErrTag, k, x, aad, sealed)
	}
	for i := range 8 * len(iv) {
		other := bytes.Clone(iv)
		other[i/8] ^= 1 << (i % 8)
		shut(t, "P10.2: one bit of the IV turned", api.ErrTag, k, other, aad, sealed)
	}
	shut(t, "P10.2: another key", api.ErrTag, keys(t, draw(16)), iv, aad, sealed)
}

func TestR3NilAndEmptyAreTheSame(t *testing.T) {
	k, iv := keys(t, drawn(16)(32)), drawn(17)(12)
	want := slow(k, iv, nil, nil)
	for _, aad := range [][]byte{nil, {}, bytes.Repeat([]byte{255}, 40)[:0]} {
		for _, b := range [][]byte{nil, {}, bytes.Repeat([]byte{255}, 40)[:0]} {
			there(t, k, iv, aad, b, want)
		}
	}
}

// spare is b with room behind that is filled.
func spare(b, behind []byte) []byte { return append(bytes.Clone(b), behind...)[:len(b)] }

// What is handed in, and the room behind it, is not changed, and that room has no say.
func TestR4NothingHandedInIsChanged(t *testing.T) {
	draw := drawn(18)
	k := keys(t, draw(16))
	sameKeys := *k
	for _, ivLong := range []int{1, 12, 13, 16, 20} {
		for _, n := range lengths() {
			iv, aad, b := spare(draw(ivLong), draw(40)), spare(draw(n), draw(40)), spare(draw(n), draw(40))
			sealed := spare(slow(k, iv, aad, b), draw(40))
			ask := func() [][]byte {
				first := gcm.First(k, iv)
				again, _ := gcm.Seal(k, iv, aad, b)
				opened, _ := gcm.Open(k, iv, aad, sealed)
				gcm.Open(k, iv, aad, b)
				return [][]byte{first[:], again, opened}
			}
			var before [][]byte
			for _, x := range [][]byte{iv, aad, b, sealed} {
				before = append(before, bytes.Clone(x[:len(x)+40]))
			}
			told := ask()
			for i, x := range [][]byte{iv, aad, b, sealed} {
				if !bytes.Equal(x[:len(x)+40], before[i]) {
					t.Errorf("R4: list %d of %d bytes, or the room behind it, was changed", i, len(x))
				}
				clear(x[len(x) : len(x)+40])
			}
			for i, x := range ask() {
				if !bytes.Equal(x, told[i]) {
					t.Errorf("R4: what stands behind lists of %d bytes changed what comes of them", n)
				}
			}
		}
	}
	if *k != sameKeys {
		t.Error("R4: the keys were changed")
	}
}

// What is handed out shares no memory with what was handed in, nor with what is handed out again.
func TestR4WhatIsHandedOutIsNew(t *testing.T) {
	draw := drawn(19)
	for _, n := range lengths() {
		k, iv, aad, b := keys(t, draw(32)), draw(12), draw(n), draw(n)
		want := slow(k, iv, aad, b)
		sealed, _ := gcm.Seal(k, iv, aad, b)
		opened, _ := gcm.Open(k, iv, aad, sealed)
		again, _ := gcm.Seal(k, iv, aad, b)
		clear(again[:cap(again)])
		if !bytes.Equal(sealed, want) {
			t.Errorf("R4: two texts of %d bytes that are sealed share memory", n)
		}
		sameText := bytes.Clone(b)
		clear(b)
		clear(aad)
		clear(iv)
		if !bytes.Equal(sealed, want) || !bytes.Equal(opened, sameText) {
			t.Errorf("R4: what is told of %d bytes hangs on them later on", n)
		}
		clear(sealed[:cap(sealed)])
		if !bytes.Equal(opened, sameText) {
			t.Errorf("R4: what is opened to %d bytes hangs on what was sealed", n)
		}
	}
}

// What came ahead, by these keys or others, good or wrong, is not to be seen.
func TestR5SameEachTime(t *testing.T) {
	draw := drawn(20)
	k, iv, aad, b := keys(t, draw(16)), draw(16), draw(20), draw(40)
	want, first := slow(k, iv, aad, b), slowFirst(k, iv)
	for range 20 {
		other, _ := gcm.Seal(keys(t, draw(32)), draw(12), draw(7), draw(33))
		gcm.Open(k, iv, aad, other)
		gcm.Seal(nil, iv, aad, b)
		gcm.First(k, draw(13))
		there(t, k, iv, aad, b, want)
		if gcm.First(k, iv) != first {
			t.Fatal("R5: the same call answers otherwise")
		}
	}
}

func TestExampleOfTheChapter(t *testing.T) {
	got, e := gcm.Seal(keys(t, make([]byte, 16)), make([]byte, 12), nil, nil)
	if e != api.OK || len(got) != 16 || !bytes.Equal(got[:4], []byte{88, 226, 252, 206}) {
		t.Errorf("example 1: %v, %d", got, e)
	}
}
