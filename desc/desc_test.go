package desc_test

import (
	"bytes"
	"math"
	"math/big"
	"slices"
	"testing"

	"palfrey/api"
	"palfrey/desc"
)

type list = []desc.Span

// drawn makes numbers from 0 up to below n that look like chance, and are the same each time.
func drawn(seed uint64) func(n int) int {
	return func(n int) int {
		seed = seed*6364136223846793005 + 1442695040888963407
		return int((seed >> 33) % uint64(n))
	}
}

// lists calls do with each list of at most so many spans of these places and lengths.
func lists(most int, places, lengths []int, do func(l list)) {
	var add func(l list)
	add = func(l list) {
		do(l)
		if len(l) == most {
			return
		}
		for _, at := range places {
			for _, n := range lengths {
				add(append(slices.Clone(l), desc.Span{At: at, N: n}))
			}
		}
	}
	add(nil)
}

// placesOf tells all places of a list one by one, in order.
func placesOf(l list) []int {
	var all []int
	for _, s := range l {
		for i := 0; i < s.N; i++ {
			all = append(all, s.At+i)
		}
	}
	return all
}

// times is a span, so many times.
func times(n int, s desc.Span) list { return slices.Repeat(list{s}, n) }

func TestP151DecodeNoByte(t *testing.T) {
	for _, b := range [][]byte{nil, {}, []byte("12345678")[:0]} {
		if l, e := desc.Decode(b); len(l) != 0 || e != api.OK {
			t.Errorf("P15.1: Decode of no byte = %v, %d", l, e)
		}
	}
}

// Each of a span's bytes has its own say.
func TestP151DecodeEachByte(t *testing.T) {
	for i := range 8 {
		b := make([]byte, 16)
		b[8+i] = 0xa5
		want := list{{}, {At: 0xa5 << (8 * i)}}
		if i > 3 {
			want = list{{}, {N: 0xa5 << (8 * (i - 4))}}
		}
		if l, e := desc.Decode(b); !slices.Equal(l, want) || e != api.OK {
			t.Errorf("P15.1: Decode(%v) = %v, %d, not %v", b, l, e, want)
		}
	}
	greatest := bytes.Repeat([]byte{255}, 8)
	if l, e := desc.Decode(greatest); !slices.Equal(l, list{{At: 1<<32 - 1, N: 1<<32 - 1}}) || e != api.OK {
		t.Errorf("P15.1: Decode(%v) = %v, %d", greatest, l, e)
	}
	b := []byte{1, 2, 3, 4, 5, 6, 7, 8, 0xf0, 0xde, 0xbc, 0x9a, 0, 0, 0, 0x80}
	if l, e := desc.Decode(b); !slices.Equal(l, list{{At: 0x04030201, N: 0x08070605}, {At: 0x9abcdef0, N: 0x80000000}}) || e != api.OK {
		t.Errorf("P15.1: Decode(%v) = %v, %d", b, l, e)
	}
}

// Of every number of bytes about the limit: too few ones are told ahead of too many.
func TestP151DecodeOfSoManyBytes(t *testing.T) {
	for n := range 200 {
		want := api.OK
		switch {
		case n%8 != 0:
			want = api.ErrShort
		case n > 64:
			want = api.ErrLong
		}
		b := make([]byte, n)
		for i := range b {
			b[i] = byte(i)
		}
		l, e := desc.Decode(b)
		if e != want {
			t.Fatalf("P15.1: Decode of %d bytes: %d, not %d", n, e, want)
		}
		if e == api.OK && len(l) != n/8 || e != api.OK && l != nil {
			t.Errorf("P15.1: Decode of %d bytes = %v", n, l)
		}
	}
}

func TestP151EncodeSoManySpans(t *testing.T) {
	s := desc.Span{At: 258, N: 1 << 24}
	row := []byte{2, 1, 0, 0, 0, 0, 0, 1}
	for n := range 12 {
		b, e := desc.Encode(times(n, s))
		if n <= 8 && (e != api.OK || !bytes.Equal(b, bytes.Repeat(row, n))) || n > 8 && (e != api.ErrLong || b != nil) {
			t.Errorf("P15.1: Encode of %d spans = %v, %d", n, b, e)
		}
	}
	if b, e := desc.Encode(list{}); len(b) != 0 || e != api.OK {
		t.Errorf("P15.1: Encode of an empty list = %v, %d", b, e)
	}
	for _, wrong := range []desc.Span{{At: -1}, {N: -1}, {At: 1 << 32}, {N: 1 << 32}} {
		if b, e := desc.Encode(times(9, wrong)); e != api.ErrLong || b != nil {
			t.Errorf("P15.1: Encode of 9 of %v = %v, %d", wrong, b, e)
		}
	}
}

// Each number by itself: in either place of a span, of the first span and of the last one.
func TestP151EncodeNumbers(t *testing.T) {
	for _, c := range []struct {
		n    int
		e    api.Errno
		want []byte
	}{
		{0, api.OK, []byte{0, 0, 0, 0}},
		{1, api.OK, []byte{1, 0, 0, 0}},
		{255, api.OK, []byte{255, 0, 0, 0}},
		{256, api.OK, []byte{0, 1, 0, 0}},
		{0x12345678, api.OK, []byte{0x78, 0x56, 0x34, 0x12}},
		{1<<31 - 1, api.OK, []byte{255, 255, 255, 127}},
		{1 << 31, api.OK, []byte{0, 0, 0, 128}},
		{1<<32 - 2, api.OK, []byte{254, 255, 255, 255}},
		{1<<32 - 1, api.OK, []byte{255, 255, 255, 255}},
		{1 << 32, api.ErrArg, nil},
		{1<<32 + 1, api.ErrArg, nil},
		{1 << 62, api.ErrArg, nil},
		{math.MaxInt, api.ErrArg, nil},
		{-1, api.ErrArg, nil},
		{-2, api.ErrArg, nil},
		{-1 << 32, api.ErrArg, nil},
		{-1<<32 + 7, api.ErrArg, nil},
		{math.MinInt, api.ErrArg, nil},
	} {
		for i := range 8 {
			for _, length := range []bool{false, true} {
				l := times(8, desc.Span{At: 7, N: 9})
				want := bytes.Repeat([]byte{7, 0, 0, 0, 9, 0, 0, 0}, 8)
				if length {
					l[i].N = c.n
					copy(want[8*i+4:], c.want)
				} else {
					l[i].At = c.n
					copy(want[8*i:], c.want)
				}
				if c.e != api.OK {
					want = nil
				}
				if b, e := desc.Encode(l); e != c.e || !bytes.Equal(b, want) || e != api.OK && b != nil {
					t.Errorf("P15.1: Encode of %v = %v, %d", l, b, e)
				}
			}
		}
	}
}

// edges are numbers where a sum, a difference or a sign may go wrong.
func edges() []int {
	return []int{math.MinInt, math.MinInt + 1, -1 << 32, -101, -1, 0, 1, 99, 100, 101, 1<<31 - 1, 1 << 31, 1<<32 - 1, 1 << 32, 1 << 62, math.MaxInt - 1, math.MaxInt}
}

// Each span and each window of these numbers, with numbers that have no end.
func TestP151CheckOfOneSpan(t *testing.T) {
	for _, window := range edges() {
		for _, at := range edges() {
			for _, n := range edges() {
				together := new(big.Int).Add(big.NewInt(int64(at)), big.NewInt(int64(n)))
				fits := at >= 0 && n >= 0 && together.Cmp(big.NewInt(int64(window))) <= 0
				for _, l := range []list{{{At: at, N: n}}, {{}, {At: at, N: n}}, {{At: at, N: n}, {}}} {
					if len(l) == 2 && window < 0 {
						continue
					}
					got, e := desc.Check(l, window)
					if fits && (got != n || e != api.OK) || !fits && (got != 0 || e != api.ErrRange) {
						t.Fatalf("P15.1: Check(%v, %d) = %d, %d", l, window, got, e)
					}
				}
			}
		}
	}
}

func TestP151Check(t *testing.T) {
	for _, c := range []struct {
		l      list
		window int
		n      int
		e      api.Errno
	}{
		{nil, 100, 0, api.OK},
		{list{}, 0, 0, api.OK},
		{nil, -1, 0, api.OK},
		{list{{At: 0, N: 0}}, 0, 0, api.OK},
		{list{{At: 0, N: 0}}, -1, 0, api.ErrRange},
		{list{{At: 0, N: 1}}, 0, 0, api.ErrRange},
		{list{{At: 0, N: 100}}, 100, 100, api.OK},
		{list{{At: 0, N: 101}}, 100, 0, api.ErrRange},
		{list{{At: 99, N: 1}}, 100, 1, api.OK},
		{list{{At: 99, N: 2}}, 100, 0, api.ErrRange},
		{list{{At: 100, N: 0}}, 100, 0, api.OK},
		{list{{At: 100, N: 1}}, 100, 0, api.ErrRange},
		{list{{At: 101, N: 0}}, 100, 0, api.ErrRange},
		{list{{At: -1, N: 2}}, 100, 0, api.ErrRange},
		{list{{At: 2, N: -1}}, 100, 0, api.ErrRange},
		{list{{At: -1, N: 0}}, 100, 0, api.ErrRange},
		{list{{At: 5, N: 3}, {At: 1, N: 2}, {At: 9, N: 0}}, 9, 5, api.OK},
		{list{{At: 0, N: 100}, {At: 0, N: 100}, {At: 50, N: 7}}, 100, 207, api.OK}, // those that meet count each
		{list{{At: 0, N: 1}, {At: 0, N: 101}, {At: 0, N: 1}}, 100, 0, api.ErrRange},
		{times(8, desc.Span{At: 3, N: 97}), 100, 776, api.OK},
		{times(8, desc.Span{At: 4, N: 97}), 100, 0, api.ErrRange},
		{times(9, desc.Span{At: 3, N: 97}), 100, 0, api.ErrLong},
		{times(9, desc.Span{At: -4, N: 97}), 100, 0, api.ErrLong},
		{times(9, desc.Span{}), -1, 0, api.ErrLong},
		{times(1000, desc.Span{}), 100, 0, api.ErrLong},
		{list{{At: 1 << 62, N: 1 << 62}}, 100, 0, api.ErrRange},
		{list{{At: math.MaxInt, N: math.MaxInt}}, 100, 0, api.ErrRange},
		{list{{At: 1, N: math.MaxInt}}, math.MaxInt, 0, api.ErrRange},
		{list{{At: 1, N: math.MaxInt - 1}}, math.MaxInt, math.MaxInt - 1, api.OK},
	} {
		if n, e := desc.Check(c.l, c.window); n != c.n || e != c.e {
			t.Errorf("P15.1: Check(%v, %d) = %d, %d, not %d, %d", c.l, c.window, n, e, c.n, c.e)
		}
	}
	// One that does not fit counts wherever it stands.
	for i := range 8 {
		l := times(8, desc.Span{At: 1, N: 2})
		l[i] = desc.Span{At: 99, N: 2}
		if n, e := desc.Check(l, 100); n != 0 || e != api.ErrRange {
			t.Errorf("P15.1: Check(%v, 100) = %d, %d", l, n, e)
		}
	}
}

func TestP152Meet(t *testing.T) {
	for _, c := range []struct {
		a, b list
		want bool
	}{
		{nil, nil, false},
		{list{{At: 0, N: 9}}, nil, false},
		{list{{At: 0, N: 9}}, list{{At: 0, N: 9}}, true},
		{list{{At: 0, N: 4}}, list{{At: 4, N: 4}}, false}, // they touch
		{list{{At: 0, N: 4}}, list{{At: 3, N: 4}}, true},  // by one byte
		{list{{At: 0, N: 4}}, list{{At: 3, N: 1}}, true},
		{list{{At: 0, N: 9}}, list{{At: 4, N: 1}}, true}, // within
		{list{{At: 0, N: 9}}, list{{At: 0, N: 1}}, true},
		{list{{At: 0, N: 9}}, list{{At: 4, N: 0}}, false}, // none within
		{list{{At: 0, N: 9}}, list{{At: 0, N: 0}}, false},
		{list{{At: 4, N: 0}}, list{{At: 4, N: 0}}, false},
		{list{{At: 4, N: 0}}, list{{At: 4, N: 1}}, false},
		{list{{At: 0, N: 4}, {At: 10, N: 4}}, list{{At: 4, N: 6}, {At: 14, N: 9}}, false},
		{list{{At: 0, N: 4}, {At: 10, N: 4}}, list{{At: 4, N: 6}, {At: 13, N: 9}}, true},
		{list{{At: 0, N: 4}, {At: 10, N: 4}}, list{{At: 4, N: 7}, {At: 14, N: 9}}, true},
		{list{{At: 0, N: 9}, {At: 3, N: 2}}, list{{At: 20, N: 1}}, false}, // but one list's own
		{list{{At: 1<<31 - 1, N: 1}}, list{{At: 1<<31 - 2, N: 2}}, true},
		{list{{At: 1<<31 - 1, N: 1}}, list{{At: 1<<31 - 2, N: 1}}, false},
		{list{{At: 1<<31 - 1, N: 1<<31 - 1}}, list{{At: 0, N: 1<<31 - 1}}, false},
		{list{{At: 1<<31 - 2, N: 1<<31 - 1}}, list{{At: 0, N: 1<<31 - 1}}, true},
	} {
		if got, back := desc.Meet(c.a, c.b), desc.Meet(c.b, c.a); got != c.want || back != c.want {
			t.Errorf("P15.2: Meet of %v and %v: %v, the other way round %v", c.a, c.b, got, back)
		}
	}
}

// Every two short lists of small spans, place by place.
func TestP152MeetOfEveryShortList(t *testing.T) {
	var all []list
	lists(2, []int{-1, 0, 1, 2, 3}, []int{0, 1, 2, 3}, func(l list) { all = append(all, l) })
	for _, a := range all {
		stands := map[int]int{}
		for _, at := range placesOf(a) {
			stands[at]++
		}
		for _, b := range all {
			want := slices.ContainsFunc(placesOf(b), func(at int) bool { return stands[at] > 0 })
			if got := desc.Meet(a, b); got != want {
				t.Fatalf("P15.2: Meet of %v and %v: %v", a, b, got)
			}
		}
	}
}

func TestP152Apart(t *testing.T) {
	for _, c := range []struct {
		l    list
		want bool
	}{
		{nil, true},
		{list{}, true},
		{list{{At: 3, N: 9}}, true},
		{list{{At: 0, N: 4}, {At: 4, N: 4}}, true},
		{list{{At: 4, N: 4}, {At: 0, N: 4}}, true},
		{list{{At: 0, N: 4}, {At: 3, N: 1}}, false},
		{list{{At: 0, N: 9}, {At: 4, N: 1}}, false},
		{list{{At: 0, N: 9}, {At: 4, N: 0}}, true},
		{list{{At: 4, N: 0}, {At: 4, N: 0}}, true},
		{list{{At: 4, N: 1}, {At: 4, N: 1}}, false},
		{list{{At: 0, N: 1}, {At: 9, N: 1}, {At: 5, N: 1}, {At: 0, N: 1}}, false},
		{list{{At: 0, N: 1}, {At: 9, N: 1}, {At: 5, N: 1}, {At: 6, N: 3}}, true},
		{list{{At: 1<<31 - 1, N: 1}, {At: 0, N: 1<<31 - 1}}, true},
		{list{{At: 1<<31 - 1, N: 1}, {At: 1, N: 1<<31 - 1}}, false},
	} {
		if got := desc.Apart(c.l); got != c.want {
			t.Errorf("P15.2: Apart(%v) = %v", c.l, got)
		}
	}
	// Of nine spans, each two may be those that meet.
	for i := range 9 {
		for j := range i {
			var l list
			for k := range 9 {
				l = append(l, desc.Span{At: 10 * k, N: 10})
			}
			if !desc.Apart(l) {
				t.Fatalf("P15.2: Apart(%v) = false", l)
			}
			l[i] = desc.Span{At: 10*j + 9, N: 1}
			if desc.Apart(l) {
				t.Errorf("P15.2: Apart(%v) = true", l)
			}
		}
	}
}

// Every short list of small spans, place by place: Apart, Reach.
func TestP152OfEveryShortList(t *testing.T) {
	lists(3, []int{-1, 0, 1, 2, 3, 4}, []int{0, 1, 2, 3}, func(l list) {
		all := placesOf(l)
		slices.Sort(all)
		if got, want := desc.Apart(l), len(slices.Compact(slices.Clone(all))) == len(all); got != want {
			t.Fatalf("P15.2: Apart(%v) = %v", l, got)
		}
		var want complex128
		if len(all) > 0 {
			want = complex(float64(all[0]), float64(all[len(all)-1]+1))
		}
		if got := desc.Reach(l); got != want {
			t.Fatalf("P15.2: Reach(%v) = %v, not %v", l, got, want)
		}
	})
}

func TestP152Reach(t *testing.T) {
	for _, c := range []struct {
		l    list
		want complex128
	}{
		{nil, 0},
		{list{}, 0},
		{list{{At: 5, N: 0}}, 0},
		{list{{At: 5, N: 0}, {At: 1, N: 0}, {At: 9, N: 0}}, 0},
		{list{{At: 5, N: 3}}, 5 + 8i},
		{list{{At: 0, N: 1}}, 1i},
		{list{{At: 5, N: 3}, {At: 1, N: 2}}, 1 + 8i},
		{list{{At: 1, N: 2}, {At: 5, N: 3}}, 1 + 8i},
		{list{{At: 1, N: 20}, {At: 5, N: 3}}, 1 + 21i}, // the last one that begins is not the last one that ends
		{list{{At: 5, N: 3}, {At: 0, N: 0}, {At: 90, N: 0}}, 5 + 8i},
		{list{{At: 0, N: 0}, {At: 90, N: 0}, {At: 5, N: 3}}, 5 + 8i},
		{list{{At: 7, N: 1}, {At: 3, N: 9}, {At: 4, N: 1}, {At: 6, N: 2}, {At: 9, N: 3}}, 3 + 12i},
		{list{{At: 1<<31 - 1, N: 1<<31 - 1}, {At: 1<<31 - 2, N: 1}}, complex(1<<31-2, 1<<32-2)},
	} {
		if got := desc.Reach(c.l); got != c.want {
			t.Errorf("P15.2: Reach(%v) = %v, not %v", c.l, got, c.want)
		}
	}
}

func TestP152Cut(t *testing.T) {
	l := list{{At: 9, N: 0}, {At: 0, N: 4}, {At: 2, N: 0}, {At: 10, N: 3}, {At: 1, N: 2}, {At: 50, N: 0}}
	for _, c := range []struct {
		n    int
		want list
	}{
		{math.MinInt, nil},
		{-1, nil},
		{0, nil},
		{1, list{{At: 0, N: 1}}},
		{3, list{{At: 0, N: 3}}},
		{4, list{{At: 0, N: 4}}},
		{5, list{{At: 0, N: 4}, {At: 10, N: 1}}},
		{6, list{{At: 0, N: 4}, {At: 10, N: 2}}},
		{7, list{{At: 0, N: 4}, {At: 10, N: 3}}},
		{8, list{{At: 0, N: 4}, {At: 10, N: 3}, {At: 1, N: 1}}},
		{9, list{{At: 0, N: 4}, {At: 10, N: 3}, {At: 1, N: 2}}},
		{10, list{{At: 0, N: 4}, {At: 10, N: 3}, {At: 1, N: 2}}},
		{math.MaxInt, list{{At: 0, N: 4}, {At: 10, N: 3}, {At: 1, N: 2}}},
	} {
		if got := desc.Cut(l, c.n); !slices.Equal(got, c.want) {
			t.Errorf("P15.2: Cut(%v, %d) = %v, not %v", l, c.n, got, c.want)
		}
	}
	for _, n := range []int{-1, 0, 1, 9} {
		for _, l := range []list{nil, {}, {{At: 5, N: 0}}, {{At: 5, N: 0}, {At: 0, N: 0}}} {
			if got := desc.Cut(l, n); len(got) != 0 {
				t.Errorf("P15.2: Cut(%v, %d) = %v", l, n, got)
			}
		}
	}
	great := list{{At: 1<<31 - 1, N: 1<<31 - 1}, {At: 0, N: 1<<31 - 1}}
	if got := desc.Cut(great, 1<<32-3); !slices.Equal(got, list{great[0], {At: 0, N: 1<<31 - 2}}) {
		t.Errorf("P15.2: Cut(%v, 2^32 - 3) = %v", great, got)
	}
	if got := desc.Cut(times(20, desc.Span{At: 3, N: 2}), 35); !slices.Equal(got, append(times(17, desc.Span{At: 3, N: 2}), desc.Span{At: 3, N: 1})) {
		t.Errorf("P15.2: Cut of 20 spans = %v", got) // a limit of spans is not asked of here
	}
}

// Every short list of small spans: the first places, one by one, and the spans as they were but for the last one's length.
func TestP152CutOfEveryShortList(t *testing.T) {
	lists(3, []int{0, 1, 5}, []int{0, 1, 2, 3}, func(l list) {
		all := placesOf(l)
		for n := -1; n < len(all)+3; n++ {
			got := desc.Cut(l, n)
			if want := all[:min(max(n, 0), len(all))]; !slices.Equal(placesOf(got), want) {
				t.Fatalf("P15.2: Cut(%v, %d) = %v, of the places %v, not %v", l, n, got, placesOf(got), want)
			}
			left := l
			for i, s := range got {
				for len(left) > 0 && left[0].N == 0 {
					left = left[1:]
				}
				whole := len(left) > 0 && left[0] == s
				part := i == len(got)-1 && len(left) > 0 && left[0].At == s.At && s.N > 0 && s.N < left[0].N
				if !whole && !part {
					t.Fatalf("P15.2: Cut(%v, %d) = %v", l, n, got)
				}
				left = left[1:]
			}
		}
	})
}

func TestP153WhatIsToldIsDecoded(t *testing.T) {
	draw := drawn(1)
	numbers := []int{0, 1, 255, 256, 1<<31 - 1, 1 << 31, 1<<32 - 1}
	for range 2000 {
		var l list
		for range draw(9) {
			l = append(l, desc.Span{At: numbers[draw(7)], N: draw(1 << 31)})
		}
		b, e := desc.Encode(l)
		if e != api.OK || len(b) != 8*len(l) {
			t.Fatalf("P15.3: Encode(%v) = %v, %d", l, b, e)
		}
		if back, e := desc.Decode(b); e != api.OK || !slices.Equal(back, l) {
			t.Fatalf("P15.3: Decode(Encode(%v)) = %v, %d", l, back, e)
		}
		for i := range b {
			b[i] = byte(draw(256))
		}
		x, e := desc.Decode(b)
		if again, f := desc.Encode(x); e != api.OK || f != api.OK || !bytes.Equal(again, b) {
			t.Fatalf("P15.3: Encode(Decode(%v)) = %v, %d, %d", b, again, e, f)
		}
	}
}

func TestP153ThoseThatMeetReachIntoOneAnother(t *testing.T) {
	draw, met := drawn(2), 0
	some := func() list {
		var l list
		for range draw(5) {
			l = append(l, desc.Span{At: draw(60), N: draw(8)})
		}
		return l
	}
	for range 5000 {
		a, b := some(), some()
		if !desc.Meet(a, b) {
			continue
		}
		met++
		if x, y := desc.Reach(a), desc.Reach(b); real(x) >= imag(y) || real(y) >= imag(x) {
			t.Fatalf("P15.3: %v and %v meet, and reach %v and %v", a, b, x, y)
		}
	}
	if met < 500 {
		t.Errorf("P15.3: but %d of the lists met", met)
	}
}

// A span of a length below 0 has no place: it meets none, and no byte of it is reached or cut.
func TestP152LengthsBelowNought(t *testing.T) {
	for _, n := range []int{-1, -4, -1 << 31, math.MinInt} {
		for at := -2; at < 12; at++ {
			none, some := desc.Span{At: at, N: n}, desc.Span{At: 3, N: 5}
			if desc.Meet(list{none}, list{some}) || desc.Meet(list{some}, list{none}) || !desc.Apart(list{none, some}) || !desc.Apart(list{some, none, none}) {
				t.Errorf("P15.2: %v meets %v", none, some)
			}
			if got := desc.Reach(list{none, some, none}); got != 3+8i {
				t.Errorf("P15.2: Reach of %v and %v = %v", none, some, got)
			}
			if got := desc.Cut(list{none, some, none}, 4); !slices.Equal(got, list{{At: 3, N: 4}}) {
				t.Errorf("P15.2: Cut of %v and %v = %v", none, some, got)
			}
		}
	}
}

// All calls end, whatever the numbers are.
func TestR1AllNumbers(t *testing.T) {
	var l list
	for _, at := range edges() {
		for _, n := range edges() {
			l = append(l, desc.Span{At: at, N: n})
		}
	}
	desc.Meet(l, l)
	desc.Apart(l)
	desc.Reach(l)
	for _, n := range edges() {
		desc.Cut(l, n)
		if got, e := desc.Check(l, n); got != 0 || e != api.ErrLong {
			t.Errorf("P15.1: Check of %d spans = %d, %d", len(l), got, e)
		}
	}
	if b, e := desc.Encode(l); b != nil || e != api.ErrLong {
		t.Errorf("P15.1: Encode of %d spans = %v, %d", len(l), b, e)
	}
}

func TestR4ListsAreNotChangedAndNotKept(t *testing.T) {
	whole := list{{At: 5, N: 3}, {At: 9, N: 0}, {At: 1, N: 2}, {At: 77, N: 78}, {At: 79, N: 80}}
	same, l := slices.Clone(whole), whole[:3]
	b, _ := desc.Encode(l)
	cut := desc.Cut(l, 4)
	desc.Check(l, 100)
	desc.Meet(l, l)
	desc.Apart(l)
	desc.Reach(l)
	if !slices.Equal(whole, same) {
		t.Fatalf("R4: the list, or the room behind it, is now %v", whole)
	}
	clear(whole)
	if want := []byte{5, 0, 0, 0, 3, 0, 0, 0, 9, 0, 0, 0, 0, 0, 0, 0, 1, 0, 0, 0, 2, 0, 0, 0}; !bytes.Equal(b, want) {
		t.Errorf("R4: the bytes hang on what was done with the list later on: %v", b)
	}
	if !slices.Equal(cut, list{{At: 5, N: 3}, {At: 1, N: 1}}) {
		t.Errorf("R4: what was cut hangs on what was done with the list later on: %v", cut)
	}
}

func TestR4BytesAreNotChangedAndNotKept(t *testing.T) {
	whole := []byte{1, 0, 0, 0, 2, 0, 0, 0, 3, 0, 0, 0, 4, 0, 0, 0, 'x', 'y', 'z', 'x', 'y', 'z', 'x', 'y'}
	same := bytes.Clone(whole)
	l, _ := desc.Decode(whole[:16])
	if !bytes.Equal(whole, same) {
		t.Fatalf("R4: the bytes, or the room behind them, are now %v", whole)
	}
	clear(whole)
	if !slices.Equal(l, list{{At: 1, N: 2}, {At: 3, N: 4}}) {
		t.Errorf("R4: the list hangs on what was done with the bytes later on: %v", l)
	}
}

// What is handed out may be written over: no list and no later answer is turned by it.
func TestR4WhatIsHandedOutIsNew(t *testing.T) {
	l := list{{At: 5, N: 3}, {At: 1, N: 2}}
	same := slices.Clone(l)
	b := []byte{1, 0, 0, 0, 2, 0, 0, 0}
	for range 3 {
		for _, n := range []int{1, 3, 4, 5, 9} {
			cut := desc.Cut(l, n)
			clear(cut[:cap(cut)])
		}
		told, _ := desc.Encode(l)
		clear(told[:cap(told)])
		decoded, _ := desc.Decode(b)
		clear(decoded[:cap(decoded)])
	}
	if !slices.Equal(l, same) || !bytes.Equal(b, []byte{1, 0, 0, 0, 2, 0, 0, 0}) {
		t.Errorf("R4: answers share memory with what was handed in: %v, %v", l, b)
	}
	if cut := desc.Cut(l, 9); !slices.Equal(cut, same) {
		t.Errorf("R4: answers share memory with one another: %v", cut)
	}
}

// What came ahead is not to be seen.
func TestR5SameEachTime(t *testing.T) {
	a, b := list{{At: 5, N: 3}, {At: 1, N: 2}}, list{{At: 3, N: 2}, {At: 8, N: 0}}
	for range 20 {
		desc.Meet(a, a)
		desc.Apart(times(8, a[0]))
		desc.Reach(times(3, desc.Span{At: 100, N: 100}))
		if desc.Meet(a, b) || !desc.Apart(a) || desc.Reach(a) != 1+8i || desc.Reach(b) != 3+5i {
			t.Fatal("R5: the same call answers otherwise")
		}
	}
}

func TestExampleOfTheChapter(t *testing.T) {
	if got := desc.Reach(list{{At: 5, N: 3}, {At: 1, N: 2}}); got != 1+8i {
		t.Errorf("example 1: %v", got)
	}
}
