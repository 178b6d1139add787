package hmac_test

import (
	"bytes"
	"encoding/hex"
	"strings"
	"testing"

	"palfrey/hmac"
	"palfrey/sha"
)

// read reads bytes written in hex.
func read(t *testing.T, s string) []byte {
	t.Helper()
	b, e := hex.DecodeString(s)
	if e != nil {
		t.Fatal(e)
	}
	return b
}

// drawn makes bytes that look like chance, and are the same each time.
func drawn(seed uint64) func(n int) []byte {
	return func(n int) []byte {
		b := make([]byte, n)
		for i := range b {
			seed = seed*6364136223846793005 + 1442695040888963407
			b[i] = byte(seed >> 56)
		}
		return b
	}
}

// slow sums as the chapter's words say, all bytes in one list.
func slow(key, b []byte) [32]byte {
	if len(key) > 64 {
		sum := sha.Sum(key)
		key = sum[:]
	}
	key = append(bytes.Clone(key), make([]byte, 64-len(key))...)
	var inner, outer []byte
	for _, k := range key {
		inner, outer = append(inner, k^0x36), append(outer, k^0x5c)
	}
	within := sha.Sum(append(inner, b...))
	return sha.Sum(append(outer, within[:]...))
}

// lengths are those of keys: none, fewer than 64 bytes, exactly so many, and more.
func lengths() []int {
	return []int{0, 1, 2, 16, 31, 32, 33, 55, 56, 62, 63, 64, 65, 66, 96, 100, 127, 128, 129, 131, 200}
}

func told(sum [32]byte) string { return hex.EncodeToString(sum[:]) }

// The standard's examples (RFC 4231): all of them, of the fifth one the first 16 bytes.
func TestP71SumOfTheStandard(t *testing.T) {
	long := strings.Repeat("aa", 131)
	for _, c := range []struct{ key, text, want string }{
		{strings.Repeat("0b", 20), hex.EncodeToString([]byte("Hi There")), "b0344c61d8db38535ca8afceaf0bf12b881dc200c9833da726e9376c2e32cff7"},
		{hex.EncodeToString([]byte("Jefe")), hex.EncodeToString([]byte("what do ya want for nothing?")), "5bdcc146bf60754e6a042426089575c75a003f089d2739839dec58b964ec3843"},
		{strings.Repeat("aa", 20), strings.Repeat("dd", 50), "773ea91e36800e46854db8ebd09181a72959098b3ef8c122d9635514ced565fe"},
		{"0102030405060708090a0b0c0d0e0f10111213141516171819", strings.Repeat("cd", 50), "82558a389a443c0ea4cc819899f2083a85f0faa3e578f8077a2e3ff46729665b"},
		{strings.Repeat("0c", 20), hex.EncodeToString([]byte("Test With Truncation")), "a3b6167473100ee06e0c796c2955552b"},
		{long, hex.EncodeToString([]byte("Test Using Larger Than Block-Size Key - Hash Key First")), "60e431591ee0b67f0d8a26aacbf5b77f8e0bc6213728c5140546040f0ee37f54"},
		{long, hex.EncodeToString([]byte("This is a test using a larger than block-size key and a larger than block-size data. The key needs to be hashed before being used by the HMAC algorithm.")), "9b09ffa71b942fcb27635fbcd5b0e944bfdc63644f0713938a7f51535c3a35e2"},
	} {
		key, text := read(t, c.key), read(t, c.text)
		if got := told(hmac.Sum(key, text)); !strings.HasPrefix(got, c.want) {
			t.Errorf("P7.1: Sum(%s, %s) = %s, not %s", c.key, c.text, got, c.want)
		}
		s := hmac.New(key)
		for i := range text {
			s.Write(text[i : i+1])
		}
		if got := told(s.Sum()); !strings.HasPrefix(got, c.want) {
			t.Errorf("P7.2: byte by byte, Sum(%s, %s) = %s, not %s", c.key, c.text, got, c.want)
		}
	}
}

func TestP71SumOfNothing(t *testing.T) {
	const want = "b613679a0814d9ec772f95d778c35fc5ff1697c493715653c6c712144292c5ad"
	for _, key := range [][]byte{nil, {}, bytes.Repeat([]byte{255}, 80)[:0]} {
		for _, b := range [][]byte{nil, {}, bytes.Repeat([]byte{255}, 80)[:0]} {
			if got := told(hmac.Sum(key, b)); got != want {
				t.Errorf("P7.1: of no key and no bytes: %s, not %s", got, want)
			}
		}
		if got := told(hmac.New(key).Sum()); got != want {
			t.Errorf("P7.2: a new state of no key: %s, not %s", got, want)
		}
	}
	draw := drawn(1)
	for _, n := range lengths() {
		key := draw(n)
		if got, want := hmac.Sum(key, nil), slow(key, nil); got != want || hmac.New(key).Sum() != want {
			t.Errorf("P7.1: by a key of %d bytes, of nothing: %x, not %x", n, got, want)
		}
	}
}

func TestP71AgainstTheChaptersWords(t *testing.T) {
	draw := drawn(2)
	for _, n := range lengths() {
		for _, key := range [][]byte{draw(n), make([]byte, n), bytes.Repeat([]byte{255}, n)} {
			for many := range 140 { // about the end of 64 bytes, and of 128, with the padding and without
				b := draw(many)
				if got, want := hmac.Sum(key, b), slow(key, b); got != want {
					t.Fatalf("P7.1: Sum(%x, %x) = %x, not %x", key, b, got, want)
				}
			}
		}
		key, b := draw(n), draw(4097)
		if got, want := hmac.Sum(key, b), slow(key, b); got != want {
			t.Errorf("P7.1: by %x, of %d bytes: %x, not %x", key, len(b), got, want)
		}
	}
}

func TestP72PartByPart(t *testing.T) {
	draw := drawn(3)
	for _, keyed := range []int{0, 20, 64, 65} {
		for _, n := range []int{0, 1, 8, 55, 56, 63, 64, 65, 130} {
			key, b := draw(keyed), draw(n)
			want := slow(key, b)
			for by := 1; by <= n+1; by++ { // by parts of one length
				s := hmac.New(key)
				for i := 0; i < n; i += by {
					s.Write(b[i:min(i+by, n)])
				}
				if got := s.Sum(); got != want {
					t.Errorf("P7.2: %d bytes by parts of %d: %x, not %x", n, by, got, want)
				}
			}
			for i := range n + 1 { // by two parts, and none ahead, between and behind
				s := hmac.New(key)
				for _, part := range [][]byte{nil, b[:i], {}, b[i:], nil} {
					s.Write(part)
				}
				if got := s.Sum(); got != want {
					t.Errorf("P7.2: %d bytes, cut at %d: %x, not %x", n, i, got, want)
				}
			}
		}
	}
}

// A sum may be asked more than once, and what is written goes on behind it.
func TestP72SumAndOn(t *testing.T) {
	draw := drawn(4)
	for _, n := range lengths() {
		key := draw(n)
		s := hmac.New(key)
		var whole []byte
		for many := range 40 {
			part := draw(many)
			s.Write(part)
			whole = append(whole, part...)
			want := slow(key, whole)
			for range 3 {
				if got := s.Sum(); got != want {
					t.Fatalf("P7.2: behind a part of %d bytes, %d in all: %x, not %x", many, len(whole), got, want)
				}
			}
		}
	}
}

// Asked ahead of all bytes, a sum neither begins the message twice nor takes the key from it.
func TestP72SumAheadOfBytes(t *testing.T) {
	draw := drawn(5)
	key, b := draw(20), draw(50)
	s := hmac.New(key)
	before := *s
	for range 3 {
		if got, want := s.Sum(), slow(key, nil); got != want {
			t.Errorf("P7.2: of no bytes: %x, not %x", got, want)
		}
	}
	if *s != before {
		t.Error("P7.2: asking for a sum turned the state")
	}
	s.Write(b)
	if got, want := s.Sum(), slow(key, b); got != want {
		t.Errorf("P7.2: behind a sum of no bytes: %x, not %x", got, want)
	}
}

func TestP72Reset(t *testing.T) {
	draw := drawn(6)
	for _, n := range lengths() {
		key := draw(n)
		s := hmac.New(key)
		s.Reset() // of no bytes at all
		for _, many := range []int{0, 1, 63, 64, 65, 128, 200} {
			b := draw(many)
			s.Write(b)
			if got, want := s.Sum(), slow(key, b); got != want {
				t.Errorf("P7.2: by a key of %d bytes, %d behind a Reset: %x, not %x", n, many, got, want)
			}
			s.Write(b)
			if got, want := s.Sum(), slow(key, append(bytes.Clone(b), b...)); got != want {
				t.Errorf("P7.2: by a key of %d bytes, gone on behind a Reset: %x, not %x", n, got, want)
			}
			s.Reset()
			if got, want := s.Sum(), slow(key, nil); got != want {
				t.Errorf("P7.2: by a key of %d bytes, Reset behind %d: %x, not %x", n, many, got, want)
			}
			s.Reset() // twice is as once
		}
	}
}

func TestP72Nil(t *testing.T) {
	var s *hmac.State
	for range 2 {
		if got := s.Sum(); got != [32]byte{} {
			t.Errorf("P7.2: Sum of nil = %x", got)
		}
		s.Write(nil)
		s.Write(bytes.Repeat([]byte{7}, 100))
		s.Reset()
	}
	if s != nil {
		t.Error("P7.2: nil is not nil any more")
	}
}

// A state that New did not make has a key of no bytes.
func TestP72StateUnmade(t *testing.T) {
	var s hmac.State
	if got, want := s.Sum(), slow(nil, nil); got != want {
		t.Errorf("P7.2: Sum of a zero State = %x, not %x", got, want)
	}
	b := bytes.Repeat([]byte{7}, 100)
	s.Write(b)
	if got, want := s.Sum(), slow(nil, b); got != want {
		t.Errorf("P7.2: of a zero State, written to: %x, not %x", got, want)
	}
	s.Reset()
	if got, want := s.Sum(), slow(nil, nil); got != want {
		t.Errorf("P7.2: of a zero State, reset: %x, not %x", got, want)
	}
}

func TestP72StatesAreApart(t *testing.T) {
	draw := drawn(7)
	one, two := draw(20), draw(70)
	a, b, same := hmac.New(one), hmac.New(two), hmac.New(one)
	var wholeA, wholeB []byte
	for n := range 40 {
		x, y := draw(n), draw(7)
		a.Write(x)
		b.Write(y)
		a.Sum()
		wholeA, wholeB = append(wholeA, x...), append(wholeB, y...)
	}
	c, d := *a, *a // copies go their own ways
	c.Write(two)
	d.Reset()
	if a.Sum() != slow(one, wholeA) || b.Sum() != slow(two, wholeB) || same.Sum() != slow(one, nil) {
		t.Error("P7.2: the states are not apart")
	}
	if c.Sum() != slow(one, append(bytes.Clone(wholeA), two...)) || d.Sum() != slow(one, nil) {
		t.Error("P7.2: a copy does not go on")
	}
}

func TestP73NoughtsBehindAKey(t *testing.T) {
	draw := drawn(8)
	for n := range 64 {
		key, b := draw(n), draw(50)
		want := hmac.Sum(key, b)
		for n := n; n < 64; n++ {
			key = append(key, 0)
			if got := hmac.Sum(key, b); got != want {
				t.Errorf("P7.3: by a key of %d bytes with noughts behind: %x, not %x", len(key), got, want)
			}
			s := hmac.New(key)
			s.Write(b)
			if s.Sum() != want {
				t.Errorf("P7.3: a state of a key of %d bytes with noughts behind", len(key))
			}
		}
		if hmac.Sum(append(key, 0), b) == want { // beyond 64 bytes they do
			t.Errorf("P7.3: a key of %d bytes counts as one of 64", len(key)+1)
		}
	}
}

func TestP73ALongKeyCountsAsItsSum(t *testing.T) {
	draw := drawn(9)
	for _, n := range lengths() {
		key, b := draw(n), draw(50)
		sum := sha.Sum(key)
		same := hmac.Sum(key, b) == hmac.Sum(sum[:], b)
		one, two := hmac.New(key), hmac.New(sum[:])
		one.Write(b)
		two.Write(b)
		if same != (n > 64) || (one.Sum() == two.Sum()) != (n > 64) {
			t.Errorf("P7.3: a key of %d bytes counts as its sum, or does not: %v", n, same)
		}
	}
}

func TestR4NothingHandedInIsChanged(t *testing.T) {
	draw := drawn(10)
	for _, n := range lengths() {
		for many := range 70 {
			keys, whole := draw(n+80), draw(many+200)
			beforeKeys, before := bytes.Clone(keys), bytes.Clone(whole)
			hmac.Sum(keys[:n], whole[:many])
			s := hmac.New(keys[:n])
			s.Write(whole[:many/2])
			s.Sum()
			s.Write(whole[many/2 : many])
			s.Sum()
			s.Reset()
			if !bytes.Equal(keys, beforeKeys) || !bytes.Equal(whole, before) {
				t.Fatalf("R4: a key of %d bytes, or %d bytes, or the room behind them, were changed", n, many)
			}
		}
	}
}

func TestR4NothingHandedInIsKept(t *testing.T) {
	draw := drawn(11)
	for _, n := range lengths() {
		for _, many := range []int{0, 1, 63, 64, 65, 130} {
			key, b := draw(n), draw(many)
			want, none := slow(key, b), slow(key, nil)
			s := hmac.New(key)
			clear(key)
			s.Write(b)
			clear(b)
			if got := s.Sum(); got != want {
				t.Errorf("R4: a state keeps the key of %d bytes, or the %d bytes, that it was given", n, many)
			}
			s.Reset()
			if s.Sum() != none {
				t.Errorf("R4: a state that is reset keeps the key of %d bytes that it was given", n)
			}
		}
	}
}

// What came ahead, by this key or another one, is not to be seen.
func TestR5SameEachTime(t *testing.T) {
	draw := drawn(12)
	key, b := draw(70), draw(50)
	want := hmac.Sum(key, b)
	for range 20 {
		hmac.Sum(draw(33), draw(80))
		hmac.New(key).Write(draw(20))
		if hmac.Sum(key, b) != want {
			t.Fatal("R5: the same call answers otherwise")
		}
	}
}

func TestExampleOfTheChapter(t *testing.T) {
	got := hmac.Sum([]byte("key"), []byte("The quick brown fox jumps over the lazy dog"))
	if !bytes.Equal(got[:4], []byte{247, 188, 131, 244}) {
		t.Errorf("example 1: %v", got[:4])
	}
	if told(got) != "f7bc83f430538424b13298e6aa6fb143ef4d59a14946175997479dbc2d1a3cd8" {
		t.Errorf("example 1: %x", got)
	}
}
