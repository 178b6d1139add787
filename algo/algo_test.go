package algo_test

import (
	"bytes"
	"encoding/hex"
	"math"
	"slices"
	"testing"

	"palfrey/aead"
	"palfrey/aes"
	"palfrey/algo"
	"palfrey/api"
	"palfrey/cbc"
	"palfrey/ctr"
	"palfrey/gcm"
	"palfrey/hmac"
	"palfrey/sha"
)

// row is a row of the chapter's table, written out once more.
type row struct {
	alg      int
	oneWay   bool
	key, iv  []int // how many bytes they may have
	aad      int   // the most bytes that it may have
	class    int
	sealed   func(n int) int // how many bytes come out; -1, if n are too few
	opened   func(n int) int
	justThat bool // not at most, but just so many
}

// table is the chapter's table.
func table() []row {
	var hmacKeys, gcmIVs []int
	for n := 1; n <= 100; n++ {
		hmacKeys = append(hmacKeys, n)
	}
	for n := 1; n <= 64; n++ {
		gcmIVs = append(gcmIVs, n)
	}
	sum := func(int) int { return 32 }
	same := func(n int) int { return n }
	more := func(n int) int { return n + 16 }
	less := func(n int) int { return max(n-16, -1) }
	above := func(n int) int {
		for n++; n%16 != 0; n++ {
		}
		return n
	}
	whole := func(n int) int {
		if n == 0 || n%16 != 0 {
			return -1
		}
		return n
	}
	return []row{
		{api.SHA, true, []int{0}, []int{0}, 0, 1, sum, nil, true},
		{api.HMAC, true, hmacKeys, []int{0}, 0, 1, sum, nil, true},
		{api.CTR, false, []int{16, 32}, []int{16}, 0, 2, same, same, true},
		{api.CBC, false, []int{16, 32}, []int{16}, 0, 3, above, whole, false},
		{api.GCM, false, []int{16, 32}, gcmIVs, 1000, 4, more, less, true},
		{api.CHACHA, false, []int{32}, []int{12}, 1000, 5, more, less, true},
	}
}

// strangers are numbers of no algorithm.
func strangers() []int { return []int{0, -1, -6, 7, 8, 1 << 8, 1<<32 + 1, math.MinInt, math.MaxInt} }

// ways are the directions of a row.
func ways(r row) []bool {
	if r.oneWay {
		return []bool{false}
	}
	return []bool{false, true}
}

// out is how many bytes come out of n, by the table.
func out(r row, open bool, n int) int {
	if open {
		return r.opened(n)
	}
	return r.sealed(n)
}

// drawn makes bytes that look like chance, and are the same each time.
func drawn(seed uint64) func(n int) []byte {
	return func(n int) []byte {
		b := make([]byte, n)
		for i := range b {
			seed = seed*6364136223846793005 + 1442695040888963407
			b[i] = byte(seed >> 56)
		}
		return b
	}
}

// params are some of a row, sealed: of its key and its IV of those places in the table.
func params(r row, draw func(n int) []byte, key, iv, aad int) algo.Params {
	return algo.Params{Alg: r.alg, Key: draw(r.key[key%len(r.key)]), IV: draw(r.iv[iv%len(r.iv)]), Aad: draw(min(aad, r.aad))}
}

// each hands on params of each row, with keys and IVs of several lengths.
func each(seed uint64, look func(r row, p algo.Params)) {
	draw := drawn(seed)
	for _, r := range table() {
		for key := range min(len(r.key), 3) {
			for iv := range min(len(r.iv), 17) {
				look(r, params(r, draw, key*49, iv*4, iv*63))
			}
		}
	}
}

// lengths are of no bytes, and of those about the ends of blocks.
func lengths() []int { return []int{0, 1, 15, 16, 17, 31, 32, 33, 64, 100} }

// layer is what an algorithm's layer tells of b.
func layer(t *testing.T, p algo.Params, b []byte) ([]byte, api.Errno) {
	t.Helper()
	switch p.Alg {
	case api.SHA:
		sum := sha.Sum(b)
		return sum[:], api.OK
	case api.HMAC:
		sum := hmac.Sum(p.Key, b)
		return sum[:], api.OK
	case api.CHACHA:
		if p.Open {
			return aead.Open(p.Key, p.IV, p.Aad, b)
		}
		return aead.Seal(p.Key, p.IV, p.Aad, b)
	}
	k, e := aes.Expand(p.Key)
	if e != api.OK {
		t.Fatalf("Expand(%x): %d", p.Key, e)
	}
	switch {
	case p.Alg == api.CTR:
		return ctr.Crypt(k, [16]byte(p.IV), b), api.OK
	case p.Alg == api.CBC && p.Open:
		return cbc.Open(k, [16]byte(p.IV), b)
	case p.Alg == api.CBC:
		return cbc.Seal(k, [16]byte(p.IV), b), api.OK
	case p.Open:
		return gcm.Open(k, p.IV, p.Aad, b)
	}
	return gcm.Seal(k, p.IV, p.Aad, b)
}

// done does what is OK.
func done(t *testing.T, p algo.Params, b []byte) []byte {
	t.Helper()
	got, e := algo.Do(p, b)
	if e != api.OK {
		t.Fatalf("P12.2: Do(%+v, %x): %d", p, b, e)
	}
	return got
}

// refused looks whether both Check and Do tell that error.
func refused(t *testing.T, want api.Errno, p algo.Params, b []byte) {
	t.Helper()
	if e := algo.Check(p); e != want {
		t.Errorf("P12.1: Check(%+v) = %d, not %d", p, e, want)
	}
	if got, e := algo.Do(p, b); e != want || len(got) != 0 {
		t.Errorf("P12.2: Do(%+v, %x) = %x, %d, not %d", p, b, got, e, want)
	}
}

func TestExampleOfTheChapter(t *testing.T) {
	if n, e := algo.Room(api.GCM, false, 5); n != 21 || e != api.OK {
		t.Errorf("P12.1: Room of GCM, sealed, 5: %d, %d", n, e)
	}
}

// Each length of a key, of an IV and of an aad, those beside the table's too.
func TestP121CheckOfEachLength(t *testing.T) {
	want := func(ok bool, e api.Errno) api.Errno {
		if ok {
			return api.OK
		}
		return e
	}
	for _, r := range table() {
		for _, open := range ways(r) {
			good := params(r, drawn(1), 0, 0, 0)
			good.Open = open
			for n := range 131 {
				p := good
				p.Key = make([]byte, n)
				if got, e := algo.Check(p), want(slices.Contains(r.key, n), api.ErrKey); got != e {
					t.Errorf("Check of %d, open %t, key of %d: %d, not %d", r.alg, open, n, got, e)
				}
				p = good
				p.IV = make([]byte, n)
				if got, e := algo.Check(p), want(slices.Contains(r.iv, n), api.ErrIV); got != e {
					t.Errorf("Check of %d, open %t, IV of %d: %d, not %d", r.alg, open, n, got, e)
				}
			}
			for _, n := range []int{0, 1, 2, 12, 16, 999, 1000, 1001, 2000} {
				p := good
				p.Aad = make([]byte, n)
				if got, e := algo.Check(p), want(n <= r.aad, api.ErrLong); got != e {
					t.Errorf("Check of %d, open %t, aad of %d: %d, not %d", r.alg, open, n, got, e)
				}
			}
		}
	}
}

// Everything is wrong at first; then one thing after the other is put right.
func TestP121TheErrorThatIsToldFirst(t *testing.T) {
	for _, alg := range strangers() {
		for _, open := range []bool{false, true} {
			refused(t, api.ErrAlg, algo.Params{Alg: alg, Open: open}, nil)
			refused(t, api.ErrAlg, algo.Params{Alg: alg, Open: open, Key: make([]byte, 16), IV: make([]byte, 16)}, make([]byte, 32))
		}
	}
	for _, r := range table() {
		good := params(r, drawn(2), 0, 0, 0)
		if r.oneWay {
			bad := algo.Params{Alg: r.alg, Open: true, Key: make([]byte, 131), IV: make([]byte, 131), Aad: make([]byte, 1001)}
			refused(t, api.ErrAlg, bad, nil)
			bad = good
			bad.Open = true
			refused(t, api.ErrAlg, bad, make([]byte, 32))
		}
		for _, open := range ways(r) {
			for _, n := range []int{0, 3} { // opened, both are too few of most algorithms
				p := algo.Params{Alg: r.alg, Open: open, Key: make([]byte, 131), IV: make([]byte, 131), Aad: make([]byte, 1001)}
				refused(t, api.ErrKey, p, make([]byte, n))
				p.Key = good.Key
				refused(t, api.ErrIV, p, make([]byte, n))
				p.IV = good.IV
				refused(t, api.ErrLong, p, make([]byte, n))
			}
		}
	}
}

func TestP121Room(t *testing.T) {
	for _, r := range table() {
		for _, open := range ways(r) {
			for n := range 200 {
				want, e := out(r, open, n), api.OK
				if want < 0 {
					want, e = 0, api.ErrShort
				}
				if got, f := algo.Room(r.alg, open, n); got != want || f != e {
					t.Errorf("Room(%d, %t, %d) = %d, %d, not %d, %d", r.alg, open, n, got, f, want, e)
				}
			}
		}
	}
}

func TestP121RoomOfWhatMayNotBe(t *testing.T) {
	below := []int{-1, -15, -16, -17, -32, math.MinInt}
	is := func(want api.Errno, alg int, open bool, n int) {
		if got, e := algo.Room(alg, open, n); got != 0 || e != want {
			t.Errorf("Room(%d, %t, %d) = %d, %d, not 0, %d", alg, open, n, got, e, want)
		}
	}
	for _, n := range append(below, 0, 1, 16, 4096) {
		for _, alg := range strangers() {
			is(api.ErrAlg, alg, false, n)
			is(api.ErrAlg, alg, true, n)
		}
		is(api.ErrAlg, api.SHA, true, n)
		is(api.ErrAlg, api.HMAC, true, n)
	}
	for _, r := range table() {
		for _, open := range ways(r) {
			for _, n := range below {
				is(api.ErrArg, r.alg, open, n)
			}
		}
	}
}

// What would be beyond the greatest number goes round (R6): it is no error.
func TestR1RoomOfGreatNumbers(t *testing.T) {
	for _, r := range table() {
		for _, open := range ways(r) {
			for _, n := range []int{1<<31 - 1, 1 << 31, math.MaxInt - 15, math.MaxInt} {
				want := api.OK
				if open && r.alg == api.CBC && n%16 != 0 {
					want = api.ErrShort
				}
				if _, e := algo.Room(r.alg, open, n); e != want {
					t.Errorf("Room(%d, %t, %d): %d, not %d", r.alg, open, n, e, want)
				}
			}
		}
	}
	for _, c := range []struct {
		alg  int
		open bool
		want int
	}{{api.CTR, true, math.MaxInt}, {api.GCM, true, math.MaxInt - 16}, {api.GCM, false, math.MinInt + 15}, {api.CBC, false, math.MinInt}} {
		if n, _ := algo.Room(c.alg, c.open, math.MaxInt); n != c.want {
			t.Errorf("Room(%d, %t) of the greatest number: %d, not %d", c.alg, c.open, n, c.want)
		}
	}
}

func TestP121Class(t *testing.T) {
	for _, r := range table() {
		if got := algo.Class(r.alg); got != r.class {
			t.Errorf("Class(%d) = %d, not %d", r.alg, got, r.class)
		}
	}
	for _, alg := range strangers() {
		if got := algo.Class(alg); got != 0 {
			t.Errorf("Class(%d) = %d, not 0", alg, got)
		}
	}
}

// Sealed and opened: what the layers that it stands on tell, of texts that are sealed ones and of others.
func TestP122AsTheLayers(t *testing.T) {
	draw := drawn(3)
	same := func(p algo.Params, b []byte) {
		t.Helper()
		want, e := layer(t, p, b)
		if got, f := algo.Do(p, b); f != e || !bytes.Equal(got, want) {
			t.Errorf("P12.2: Do(%+v, %x) = %x, %d, not %x, %d", p, b, got, f, want, e)
		}
	}
	each(4, func(r row, p algo.Params) {
		for _, n := range lengths() {
			b := draw(n)
			same(p, b)
			if r.oneWay {
				continue
			}
			sealed := done(t, p, b)
			p := p
			p.Open = true
			same(p, sealed)
			if r.opened(n) >= 0 {
				same(p, b)
			}
		}
	})
}

// Sums and sealed texts that are known: those of FIPS 180-4, RFC 4231, SP 800-38A, GCM's authors and RFC 8439.
func TestP122OfTheStandards(t *testing.T) {
	const (
		block = "6bc1bee22e409f96e93d7e117393172a"
		key   = "2b7e151628aed2a6abf7158809cf4f3c"
		long  = "808182838485868788898a8b8c8d8e8f909192939495969798999a9b9c9d9e9f"
		lady  = "4c616469657320616e642047656e746c656d656e206f662074686520636c617373206f66202739393a204966204920636f756c64206f6666657220796f75206f6e6c79206f6e652074697020666f7220746865206675747572652c2073756e73637265656e20776f756c642062652069742e"
	)
	for _, c := range []struct {
		alg                  int
		key, iv, aad, b, out string
	}{
		{api.SHA, "", "", "", "616263", "ba7816bf8f01cfea414140de5dae2223b00361a396177a9cb410ff61f20015ad"},
		{api.HMAC, "4a656665", "", "", "7768617420646f2079612077616e7420666f72206e6f7468696e673f", "5bdcc146bf60754e6a042426089575c75a003f089d2739839dec58b964ec3843"},
		{api.CTR, key, "f0f1f2f3f4f5f6f7f8f9fafbfcfdfeff", "", block, "874d6191b620e3261bef6864990db6ce"},
		{api.GCM, "00000000000000000000000000000000", "000000000000000000000000", "", "00000000000000000000000000000000", "0388dace60b6a392f328c2b971b2fe78ab6e47d42cec13bdf53a67b21257bddf"},
		{api.CHACHA, long, "070000004041424344454647", "50515253c0c1c2c3c4c5c6c7", lady, "d31a8d34648e60db7b86afbc53ef7ec2a4aded51296e08fea9e2b5a736ee62d63dbea45e8ca9671282fafb69da92728b1a71de0a9e060b2905d6a5b67ecd3b3692ddbd7f2d778b8c9803aee328091b58fab324e4fad675945585808b4831d7bc3ff4def08e4b7a9de576d26586cec64b61161ae10b594f09e26a7e902ecbd0600691"},
	} {
		p := algo.Params{Alg: c.alg, Key: read(t, c.key), IV: read(t, c.iv), Aad: read(t, c.aad)}
		if got := hex.EncodeToString(done(t, p, read(t, c.b))); got != c.out {
			t.Errorf("P12.2: of %d: %s, not %s", c.alg, got, c.out)
		}
	}
	p := algo.Params{Alg: api.CBC, Key: read(t, key), IV: read(t, "000102030405060708090a0b0c0d0e0f")}
	if got := hex.EncodeToString(done(t, p, read(t, block))[:16]); got != "7649abac8119b246cee98e9b12e9197d" {
		t.Errorf("P12.2: of CBC: %s", got)
	}
}

// read reads bytes written in hex.
func read(t *testing.T, s string) []byte {
	t.Helper()
	b, e := hex.DecodeString(s)
	if e != nil {
		t.Fatal(e)
	}
	return b
}

// Room's error, of what Check finds nothing wrong in.
func TestP122TooFewBytes(t *testing.T) {
	each(5, func(r row, p algo.Params) {
		for _, n := range lengths() {
			if p.Open = true; r.oneWay || r.opened(n) >= 0 {
				continue
			}
			if got, e := algo.Do(p, make([]byte, n)); e != api.ErrShort || len(got) != 0 {
				t.Errorf("P12.2: Do of %d, opened, of %d bytes: %x, %d", r.alg, n, got, e)
			}
		}
	})
}

// Any bit of what is sealed, of the IV or of the aad turned, and any byte taken off or put behind.
func TestP122Tags(t *testing.T) {
	shut := func(p algo.Params, b []byte) {
		t.Helper()
		if got, e := algo.Do(p, b); e != api.ErrTag || len(got) != 0 {
			t.Errorf("P12.2: Do(%+v, %x) = %x, %d, not ErrTag", p, b, got, e)
		}
	}
	for _, r := range table()[4:] {
		draw := drawn(6)
		p := params(r, draw, 1, 11, 20)
		sealed := done(t, p, draw(19))
		p.Open = true
		done(t, p, sealed)
		for _, turned := range [][]byte{sealed, p.IV, p.Aad, p.Key} {
			for i := range 8 * len(turned) {
				turned[i/8] ^= 1 << (i % 8)
				shut(p, sealed)
				turned[i/8] ^= 1 << (i % 8)
			}
		}
		for n := 16; n < len(sealed); n++ {
			shut(p, sealed[:n])
		}
		shut(p, append(bytes.Clone(sealed), 0))
		p.Aad = p.Aad[1:]
		shut(p, sealed)
	}
}

// What ends in no padding is made by CTR's own means: a block is put to what its deciphering must be.
func TestP122Padding(t *testing.T) {
	for _, n := range []int{16, 32} {
		key := drawn(7)(n)
		k, e := aes.Expand(key)
		if e != api.OK {
			t.Fatal(e)
		}
		sealed := k.Encrypt([16]byte{}) // deciphered: the IV
		for _, c := range []struct {
			end  string
			many int // how many bytes are left; -1, if there is no padding
		}{{"01", 15}, {"0202", 14}, {"0102", -1}, {"00", -1}, {"11", -1}, {"ff", -1}, {"0f0f", -1}, {"10101010101010101010101010101010", 0}, {"11101010101010101010101010101010", -1}} {
			iv, end := bytes.Repeat([]byte{0xaa}, 16), read(t, c.end)
			copy(iv[16-len(end):], end)
			got, e := algo.Do(algo.Params{Alg: api.CBC, Open: true, Key: key, IV: iv}, sealed[:])
			if c.many < 0 && (e != api.ErrPad || len(got) != 0) || c.many >= 0 && (e != api.OK || !bytes.Equal(got, iv[:c.many])) {
				t.Errorf("P12.2: ends in %s: %x, %d", c.end, got, e)
			}
		}
	}
}

func TestP123ThereAndBackInTheRoomThatIsTold(t *testing.T) {
	draw := drawn(8)
	fits := func(r row, p algo.Params, b, got []byte) {
		t.Helper()
		n, e := algo.Room(p.Alg, p.Open, len(b))
		if e != api.OK || len(got) > n || r.justThat && len(got) != n {
			t.Errorf("P12.3: of %d, open %t, %d bytes of %d, Room told %d, %d", p.Alg, p.Open, len(got), len(b), n, e)
		}
	}
	each(9, func(r row, p algo.Params) {
		for _, n := range lengths() {
			b := draw(n)
			sealed := done(t, p, b)
			fits(r, p, b, sealed)
			if r.oneWay {
				continue
			}
			p := p
			p.Open = true
			back := done(t, p, sealed)
			fits(r, p, sealed, back)
			if !bytes.Equal(back, b) {
				t.Errorf("P12.3: Do(%+v, %x) = %x, not %x", p, sealed, back, b)
			}
		}
	})
}

func TestP123CTRIsTheSameBothWays(t *testing.T) {
	draw := drawn(10)
	p := params(table()[2], draw, 0, 0, 0)
	b := draw(50)
	sealed := done(t, p, b)
	p.Open = true
	if !bytes.Equal(done(t, p, b), sealed) {
		t.Error("P12.3: CTR is another one, opened")
	}
}

func TestR3ListsThatAreEmpty(t *testing.T) {
	for _, r := range table() {
		p := params(r, drawn(11), 0, 0, 0)
		q := p
		for _, list := range []*[]byte{&q.Key, &q.IV, &q.Aad} {
			if len(*list) == 0 {
				*list = nil
			}
		}
		one, two := done(t, p, []byte{}), done(t, q, nil)
		if !bytes.Equal(one, two) {
			t.Errorf("R3: of %d: %x, %x", r.alg, one, two)
		}
	}
}

// inRoom is b with known bytes in the spare room behind its end.
func inRoom(b []byte) []byte {
	return append(bytes.Clone(b), bytes.Repeat([]byte{0x5a}, 40)...)[:len(b)]
}

func TestR4NothingHandedInIsChanged(t *testing.T) {
	each(12, func(r row, p algo.Params) {
		for _, open := range ways(r) {
			b := drawn(13)(33)
			if open {
				b = done(t, p, b)
			}
			q := algo.Params{Alg: p.Alg, Open: open, Key: inRoom(p.Key), IV: inRoom(p.IV), Aad: inRoom(p.Aad)}
			c := inRoom(b)
			done(t, q, c)
			for i, two := range [][2][]byte{{q.Key, p.Key}, {q.IV, p.IV}, {q.Aad, p.Aad}, {c, b}} {
				n := len(two[1])
				if !bytes.Equal(two[0], two[1]) || !bytes.Equal(two[0][n:n+40], bytes.Repeat([]byte{0x5a}, 40)) {
					t.Errorf("R4: of %d, open %t, list %d was changed", p.Alg, open, i)
				}
			}
		}
	})
}

// What is handed out goes on being what it was, whatever is done to what was handed in, and the other way round.
func TestR4WhatIsHandedOutIsNew(t *testing.T) {
	each(14, func(r row, p algo.Params) {
		for _, open := range ways(r) {
			p, b := p, drawn(15)(48)
			if open {
				b = done(t, p, b)
				p.Open = true
			}
			first := done(t, p, b)
			kept := bytes.Clone(first)
			for _, list := range [][]byte{p.Key, p.IV, p.Aad, b} {
				for i := range list {
					list[i] ^= 0xff
				}
			}
			if !bytes.Equal(first, kept) {
				t.Errorf("R4: of %d, open %t: what was handed out hangs on what was handed in", p.Alg, open)
			}
			clear(first[:cap(first)])
			for _, list := range [][]byte{p.Key, p.IV, p.Aad, b} {
				for i := range list {
					list[i] ^= 0xff
				}
			}
			if again := done(t, p, b); !bytes.Equal(again, kept) {
				t.Errorf("R4: of %d, open %t: %x, then %x", p.Alg, open, kept, again)
			}
		}
	})
}

func TestR5SameEachTime(t *testing.T) {
	each(16, func(r row, p algo.Params) {
		b := drawn(17)(20)
		if !bytes.Equal(done(t, p, b), done(t, p, b)) {
			t.Errorf("R5: of %d: another one", p.Alg)
		}
	})
}
