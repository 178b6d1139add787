package arena_test

import (
	"bytes"
	"math"
	"slices"
	"testing"

	"palfrey/api"
	"palfrey/arena"
	"palfrey/desc"
)

type list = []desc.Span

// drawn makes numbers from 0 up to below n that look like chance, and are the same each time.
func drawn(seed uint64) func(n int) int {
	return func(n int) int {
		seed = seed*6364136223846793005 + 1442695040888963407
		return int((seed >> 33) % uint64(n))
	}
}

// made is an arena of so many windows of so many bytes, and its windows' bytes, each another one than its neighbours.
func made(t *testing.T, clients, window int) (*arena.Arena, [][]byte) {
	t.Helper()
	a, e := arena.New(clients, window)
	if e != api.OK || a == nil {
		t.Fatalf("P16.1: New(%d, %d): %d", clients, window, e)
	}
	all := make([][]byte, clients)
	for c := range all {
		for i := range window {
			all[c] = append(all[c], byte(1+50*c+i))
		}
		if e := a.Write(c, 0, all[c]); e != api.OK {
			t.Fatalf("P16.1: Write(%d, 0) of %d bytes: %d", c, window, e)
		}
	}
	return a, all
}

// look holds all bytes of an arena against what they should be.
func look(t *testing.T, a *arena.Arena, all [][]byte, after string, args ...any) {
	t.Helper()
	for c, want := range all {
		if got, e := a.Read(c, 0, len(want)); e != api.OK || !bytes.Equal(got, want) {
			t.Fatalf("P16.3: the window %d, after %s %v: %v, %d, not %v", c, after, args, got, e, want)
		}
	}
}

// fits tells whether a span stands within a window, place by place.
func fits(s desc.Span, window int) bool {
	return s.At >= 0 && s.N >= 0 && s.At <= window && s.N <= window && s.At+s.N <= window
}

// wrong is the error that a list is to have: that of the client, then of the number of spans, then of one that does not fit.
func wrong(c, clients int, l list, window int) api.Errno {
	switch {
	case c < 0 || c >= clients:
		return api.ErrArg
	case len(l) > 8:
		return api.ErrLong
	case slices.ContainsFunc(l, func(s desc.Span) bool { return !fits(s, window) }):
		return api.ErrRange
	}
	return api.OK
}

// placesOf tells all places of a list one by one, in order.
func placesOf(l list) []int {
	var all []int
	for _, s := range l {
		for i := 0; i < s.N; i++ {
			all = append(all, s.At+i)
		}
	}
	return all
}

// lists calls do with each list of at most so many spans of these places and lengths.
func lists(most int, places, lengths []int, do func(l list)) {
	var add func(l list)
	add = func(l list) {
		do(l)
		if len(l) == most {
			return
		}
		for _, at := range places {
			for _, n := range lengths {
				add(append(slices.Clone(l), desc.Span{At: at, N: n}))
			}
		}
	}
	add(nil)
}

func TestP161New(t *testing.T) {
	for _, clients := range []int{math.MinInt, -1, 0, 1, 2, 7, 8, 9, 16, math.MaxInt} {
		for _, window := range []int{math.MinInt, -1, 0, 1, 2, 64, 4095, 4096, 4097, 8192, math.MaxInt} {
			a, e := arena.New(clients, window)
			if clients < 1 || clients > 8 || window < 1 || window > 4096 {
				if a != nil || e != api.ErrArg {
					t.Errorf("P16.1: New(%d, %d) = %v, %d", clients, window, a, e)
				}
				continue
			}
			if a == nil || e != api.OK || a.Window() != window {
				t.Fatalf("P16.1: New(%d, %d): %d", clients, window, e)
			}
			for c := range clients {
				if b, e := a.Read(c, 0, window); e != api.OK || !bytes.Equal(b, make([]byte, window)) {
					t.Errorf("P16.1: New(%d, %d): the window %d: %v, %d", clients, window, c, b, e)
				}
				if e := a.Write(c, window, []byte{1}); e != api.ErrRange {
					t.Errorf("P16.1: New(%d, %d): the window %d has more bytes: %d", clients, window, c, e)
				}
			}
			if _, e := a.Read(clients, 0, 0); e != api.ErrArg {
				t.Errorf("P16.1: New(%d, %d) has one window more: %d", clients, window, e)
			}
		}
	}
}

// Every place and length in and about small windows, of every client and of none.
func TestP161WriteAndRead(t *testing.T) {
	const clients = 3
	for window := 1; window <= 4; window++ {
		for c := -1; c <= clients; c++ {
			for at := -2; at <= window+2; at++ {
				for n := -2; n <= window+2; n++ {
					a, all := made(t, clients, window)
					want := wrong(c, clients, list{{At: at, N: n}}, window)
					got, e := a.Read(c, at, n)
					if e != want || e == api.OK && !bytes.Equal(got, all[c][at:at+n]) || e != api.OK && got != nil {
						t.Fatalf("P16.1: window %d: Read(%d, %d, %d) = %v, %d, not %d", window, c, at, n, got, e, want)
					}
					look(t, a, all, "Read", c, at, n)
					if n < 0 {
						continue
					}
					b := []byte("abcdefgh")[:n]
					if e := a.Write(c, at, b); e != want {
						t.Fatalf("P16.1: window %d: Write(%d, %d, %q) = %d, not %d", window, c, at, b, e, want)
					}
					if want == api.OK {
						copy(all[c][at:], b)
					}
					look(t, a, all, "Write", c, at, n)
				}
			}
		}
	}
}

func TestP161NoByte(t *testing.T) {
	a, all := made(t, 2, 4096)
	for at, want := range map[int]api.Errno{0: api.OK, 1: api.OK, 4095: api.OK, 4096: api.OK, 4097: api.ErrRange, -1: api.ErrRange, math.MaxInt: api.ErrRange, math.MinInt: api.ErrRange} {
		for _, b := range [][]byte{nil, {}} {
			if e := a.Write(1, at, b); e != want {
				t.Errorf("P16.1: Write of no byte at %d: %d, not %d", at, e, want)
			}
		}
		if b, e := a.Read(1, at, 0); len(b) != 0 || e != want {
			t.Errorf("P16.1: Read of no byte at %d: %v, %d, not %d", at, b, e, want)
		}
	}
	look(t, a, all, "no byte")
}

// Numbers so great that a place and a length together go round, and clients that are none.
func TestP161GreatNumbers(t *testing.T) {
	a, all := made(t, 2, 10)
	great := []int{math.MinInt, math.MinInt + 1, -1 << 32, -1, 11, 1 << 31, 1 << 32, 1 << 62, math.MaxInt - 1, math.MaxInt}
	for _, at := range append(great, 0, 5, 10) {
		for _, n := range great {
			if b, e := a.Read(0, at, n); b != nil || e != api.ErrRange {
				t.Errorf("P16.1: Read(0, %d, %d) = %v, %d", at, n, b, e)
			}
			if b, e := a.Gather(0, list{{At: at, N: n}}); b != nil || e != api.ErrRange {
				t.Errorf("P16.2: Gather(0, (%d, %d)) = %v, %d", at, n, b, e)
			}
			if e := a.Scatter(0, list{{At: at, N: n}}, nil); e != api.ErrRange {
				t.Errorf("P16.2: Scatter(0, (%d, %d)) = %d", at, n, e)
			}
		}
	}
	for _, at := range great {
		if e := a.Write(0, at, []byte("x")); e != api.ErrRange {
			t.Errorf("P16.1: Write(0, %d) = %d", at, e)
		}
	}
	for _, c := range []int{math.MinInt, -1 << 32, -1, 2, 8, 9, 1 << 32, math.MaxInt} {
		checkNoClient(t, a, c)
	}
	look(t, a, all, "what can't be done")
}

// checkNoClient sees that all calls tell ErrArg of c, whatever else is wrong.
func checkNoClient(t *testing.T, a *arena.Arena, c int) {
	t.Helper()
	for _, at := range []int{-1, 0, 99999} {
		if e := a.Write(c, at, []byte("x")); e != api.ErrArg {
			t.Errorf("P16.1: Write(%d, %d) = %d", c, at, e)
		}
		if e := a.Write(c, at, nil); e != api.ErrArg {
			t.Errorf("P16.1: Write(%d, %d) of no byte = %d", c, at, e)
		}
		if b, e := a.Read(c, at, 1); b != nil || e != api.ErrArg {
			t.Errorf("P16.1: Read(%d, %d, 1) = %v, %d", c, at, b, e)
		}
	}
	for _, l := range []list{nil, {{At: 0, N: 1}}, {{At: -1, N: 1}}, make(list, 9)} {
		if b, e := a.Gather(c, l); b != nil || e != api.ErrArg {
			t.Errorf("P16.2: Gather(%d, %v) = %v, %d", c, l, b, e)
		}
		if e := a.Scatter(c, l, []byte("more than they have")); e != api.ErrArg {
			t.Errorf("P16.2: Scatter(%d, %v) = %d", c, l, e)
		}
	}
	a.Wipe(c)
}

// Every short list of small spans, those that do not fit too, with fewer bytes than they have, as many, and more.
func TestP162EveryShortList(t *testing.T) {
	const clients, window = 2, 4
	fresh, first := made(t, clients, window)
	lists(2, []int{-1, 0, 1, 2, 4, 5}, []int{-1, 0, 1, 2, 3}, func(l list) {
		want, places := wrong(1, clients, l, window), placesOf(l)
		got, e := fresh.Gather(1, l)
		if e != want || e != api.OK && got != nil {
			t.Fatalf("P16.2: Gather(1, %v) = %v, %d, not %d", l, got, e, want)
		}
		for i, b := range got {
			if len(got) != len(places) || b != first[1][places[i]] {
				t.Fatalf("P16.2: Gather(1, %v) = %v of %v", l, got, first[1])
			}
		}
		if want == api.OK && len(got) != len(places) {
			t.Fatalf("P16.2: Gather(1, %v) = %v", l, got)
		}
		for n := range len(places) + 3 {
			checkScatter(t, l, []byte("ABCDEFGHIJ")[:n], want)
		}
	})
	look(t, fresh, first, "Gather")
}

// checkScatter scatters b in a window of a new arena, and holds all bytes against what they should be, one by one.
func checkScatter(t *testing.T, l list, b []byte, want api.Errno) {
	t.Helper()
	a, all := made(t, 2, 4)
	places := placesOf(l)
	if want == api.OK && len(b) > len(places) {
		want = api.ErrLong
	}
	if e := a.Scatter(1, l, b); e != want {
		t.Fatalf("P16.2: Scatter(1, %v, %q) = %d, not %d", l, b, e, want)
	}
	if want == api.OK {
		for i := range b {
			all[1][places[i]] = b[i]
		}
	}
	look(t, a, all, "Scatter", l, string(b))
}

func TestP162Gather(t *testing.T) {
	a, _ := made(t, 2, 20)
	a.Write(1, 0, []byte("abcdefghijklmnopqrst"))
	for _, c := range []struct {
		l    list
		want string
		e    api.Errno
	}{
		{nil, "", api.OK},
		{list{}, "", api.OK},
		{list{{At: 3, N: 0}}, "", api.OK},
		{list{{At: 20, N: 0}}, "", api.OK},
		{list{{At: 21, N: 0}}, "", api.ErrRange},
		{list{{At: 0, N: 20}}, "abcdefghijklmnopqrst", api.OK},
		{list{{At: 0, N: 21}}, "", api.ErrRange},
		{list{{At: 19, N: 1}, {At: 0, N: 2}}, "tab", api.OK},
		{list{{At: 5, N: 3}, {At: 7, N: 0}, {At: 1, N: 2}}, "fghbc", api.OK},
		{list{{At: 0, N: 4}, {At: 2, N: 4}, {At: 3, N: 1}}, "abcdcdefd", api.OK}, // those that meet
		{list{{At: 4, N: 2}, {At: 4, N: 2}}, "efef", api.OK},
		{list{{At: 4, N: 2}, {At: 19, N: 2}}, "", api.ErrRange},
		{list{{At: 19, N: 2}, {At: 4, N: 2}}, "", api.ErrRange},
		{slices.Repeat(list{{At: 1, N: 2}}, 8), "bcbcbcbcbcbcbcbc", api.OK},
		{slices.Repeat(list{{At: 1, N: 2}}, 9), "", api.ErrLong},
		{slices.Repeat(list{{At: -1, N: 2}}, 9), "", api.ErrLong},
		{make(list, 9), "", api.ErrLong},
		{slices.Repeat(list{{At: 0, N: 20}}, 8), "abcdefghijklmnopqrstabcdefghijklmnopqrstabcdefghijklmnopqrstabcdefghijklmnopqrst" +
			"abcdefghijklmnopqrstabcdefghijklmnopqrstabcdefghijklmnopqrstabcdefghijklmnopqrst", api.OK},
	} {
		if b, e := a.Gather(1, c.l); string(b) != c.want || e != c.e || e != api.OK && b != nil {
			t.Errorf("P16.2: Gather(1, %v) = %q, %d, not %q, %d", c.l, b, e, c.want, c.e)
		}
	}
}

func TestP162Scatter(t *testing.T) {
	for _, c := range []struct {
		l    list
		b    string
		want string
		e    api.Errno
	}{
		{nil, "", "..........", api.OK},
		{nil, "x", "..........", api.ErrLong},
		{list{{At: 3, N: 0}}, "x", "..........", api.ErrLong},
		{list{{At: 10, N: 0}}, "", "..........", api.OK},
		{list{{At: 11, N: 0}}, "", "..........", api.ErrRange},
		{list{{At: 2, N: 1}, {At: 0, N: 2}}, "abc", "bca.......", api.OK},
		{list{{At: 2, N: 1}, {At: 0, N: 2}}, "abcd", "..........", api.ErrLong},
		{list{{At: 2, N: 1}, {At: 0, N: 2}}, "ab", "b.a.......", api.OK}, // fewer: the first places
		{list{{At: 2, N: 1}, {At: 0, N: 2}}, "a", "..a.......", api.OK},
		{list{{At: 2, N: 1}, {At: 0, N: 2}}, "", "..........", api.OK},
		{list{{At: 9, N: 1}, {At: 5, N: 0}, {At: 0, N: 9}}, "abcdefghij", "bcdefghija", api.OK},
		{list{{At: 0, N: 4}, {At: 2, N: 4}}, "abcdefgh", "abefgh....", api.OK}, // where they meet the later one counts
		{list{{At: 2, N: 4}, {At: 0, N: 4}}, "abcdefgh", "efghcd....", api.OK},
		{list{{At: 0, N: 4}, {At: 2, N: 4}}, "abcde", "abed......", api.OK},
		{list{{At: 4, N: 2}, {At: 4, N: 2}}, "abcd", "....cd....", api.OK},
		{list{{At: 4, N: 2}, {At: 4, N: 2}}, "abc", "....cb....", api.OK},
		{list{{At: 4, N: 2}, {At: 9, N: 2}}, "abcd", "..........", api.ErrRange},
		{list{{At: 9, N: 2}, {At: 4, N: 2}}, "abcdefgh", "..........", api.ErrRange}, // ahead of too many bytes
		{list{{At: 4, N: 2}, {At: 9, N: 2}}, "", "..........", api.ErrRange},
		{slices.Repeat(list{{At: 1, N: 2}}, 8), "abcdefghijklmnop", ".op.......", api.OK},
		{slices.Repeat(list{{At: 1, N: 2}}, 9), "a", "..........", api.ErrLong},
		{slices.Repeat(list{{At: 9, N: 2}}, 9), "a", "..........", api.ErrLong},
		{list{{At: 0, N: 10}}, "abcdefghij", "abcdefghij", api.OK},
		{list{{At: 0, N: 10}}, "abcdefghijk", "..........", api.ErrLong},
	} {
		a, all := made(t, 2, 10)
		a.Write(1, 0, []byte(".........."))
		if e := a.Scatter(1, c.l, []byte(c.b)); e != c.e {
			t.Errorf("P16.2: Scatter(1, %v, %q) = %d, not %d", c.l, c.b, e, c.e)
		}
		all[1] = []byte(c.want)
		look(t, a, all, "Scatter", c.l, c.b)
	}
}

func TestP162Wipe(t *testing.T) {
	const clients, window = 8, 4096
	for c := range clients {
		a, all := made(t, clients, window)
		clear(all[c])
		for range 2 { // of noughts noughts come
			a.Wipe(c)
			look(t, a, all, "Wipe", c)
		}
		if e := a.Write(c, 1, []byte("again")); e != api.OK {
			t.Errorf("P16.2: Write in a window that was wiped: %d", e)
		}
		copy(all[c][1:], "again")
		look(t, a, all, "Wipe and Write", c)
	}
	a, all := made(t, clients, window)
	for _, c := range []int{math.MinInt, -1, 8, 9, math.MaxInt} {
		a.Wipe(c)
		look(t, a, all, "Wipe", c)
	}
}

func TestP162Nil(t *testing.T) {
	for _, a := range []*arena.Arena{nil, {}} {
		if a.Window() != 0 {
			t.Errorf("P16.2: the window of nil has %d bytes", a.Window())
		}
		for _, c := range []int{-1, 0, 1} {
			checkNoClient(t, a, c)
		}
		if a.Window() != 0 {
			t.Errorf("P16.2: the window of nil has %d bytes by now", a.Window())
		}
	}
}

// A life of many calls in all windows, held against bytes that are put one by one.
func TestP163EachWindowByItself(t *testing.T) {
	const clients, window = 5, 40
	draw := drawn(1)
	a, all := made(t, clients, window)
	some := func() list {
		var l list
		for range draw(5) {
			at := draw(window + 1)
			l = append(l, desc.Span{At: at, N: draw(min(window-at, 12) + 1)})
		}
		return l
	}
	for i := range 5000 {
		c, l := draw(clients), some()
		places := placesOf(l)
		b := make([]byte, draw(len(places)+2))
		for j := range b {
			b[j] = byte(draw(256))
		}
		switch draw(8) {
		case 0:
			a.Wipe(c)
			clear(all[c])
		case 1, 2:
			at := draw(window + 1)
			if e := a.Write(c, at, b); (e == api.OK) != (at+len(b) <= window) {
				t.Fatalf("P16.1: Write(%d, %d) of %d bytes: %d", c, at, len(b), e)
			} else if e == api.OK {
				copy(all[c][at:], b)
			}
		case 3:
			got, e := a.Gather(c, l)
			for j, at := range places {
				if e != api.OK || len(got) != len(places) || got[j] != all[c][at] {
					t.Fatalf("P16.2: Gather(%d, %v) = %v, %d", c, l, got, e)
				}
			}
		default:
			if e := a.Scatter(c, l, b); (e == api.OK) != (len(b) <= len(places)) {
				t.Fatalf("P16.2: Scatter(%d, %v) of %d bytes: %d", c, l, len(b), e)
			} else if e == api.OK {
				for j := range b {
					all[c][places[j]] = b[j]
				}
			}
		}
		look(t, a, all, "call", i)
	}
}

// One byte, at each place of each window: all others stay.
func TestP163OneByte(t *testing.T) {
	const clients, window = 8, 5
	a, all := made(t, clients, window)
	for c := range clients {
		for at := range window {
			if e := a.Scatter(c, list{{At: at, N: 1}}, []byte{250}); e != api.OK {
				t.Fatalf("P16.2: Scatter(%d, (%d, 1)): %d", c, at, e)
			}
			all[c][at] = 250
			look(t, a, all, "Scatter", c, at)
		}
	}
}

func TestP163WhatIsScatteredIsGathered(t *testing.T) {
	draw, apart := drawn(2), 0
	for range 3000 {
		a, _ := made(t, 2, 60)
		var l list
		for range draw(9) {
			l = append(l, desc.Span{At: draw(50), N: draw(10)})
		}
		if !desc.Apart(l) {
			continue
		}
		apart++
		n, _ := desc.Check(l, 60)
		b := make([]byte, n)
		for i := range b {
			b[i] = byte(draw(256))
		}
		if e := a.Scatter(0, l, b); e != api.OK {
			t.Fatalf("P16.3: Scatter(0, %v): %d", l, e)
		}
		if got, e := a.Gather(0, l); e != api.OK || !bytes.Equal(got, b) {
			t.Fatalf("P16.3: at %v %v was scattered, and %v gathered, %d", l, b, got, e)
		}
	}
	if apart < 500 {
		t.Errorf("P16.3: but %d of the lists have no spans that meet", apart)
	}
}

// Two arenas share nothing.
func TestP163TwoArenas(t *testing.T) {
	a, all := made(t, 2, 8)
	b, other := made(t, 2, 8)
	a.Wipe(0)
	clear(all[0])
	b.Write(1, 0, []byte("another!"))
	copy(other[1], "another!")
	look(t, a, all, "what was done in another one")
	look(t, b, other, "what was done in another one")
}

func TestR4NothingHandedInIsChangedOrKept(t *testing.T) {
	a, all := made(t, 2, 10)
	whole := []byte("abcdef")
	spans := list{{At: 2, N: 1}, {At: 0, N: 3}, {At: 9, N: 1}, {At: 8, N: 1}}
	b, l := whole[:3], spans[:2] // the spans have one byte more than b
	a.Write(0, 4, b)
	a.Scatter(1, l, b)
	a.Gather(1, l)
	if string(whole) != "abcdef" || !slices.Equal(spans, list{{At: 2, N: 1}, {At: 0, N: 3}, {At: 9, N: 1}, {At: 8, N: 1}}) {
		t.Fatalf("R4: what was handed in, or the room behind it, is now %q, %v", whole, spans)
	}
	copy(all[0][4:], "abc")
	copy(all[1], "bca")
	clear(whole)
	clear(spans)
	look(t, a, all, "turning what was handed in")
	a.Wipe(0)
	a.Wipe(1)
	if !bytes.Equal(whole, make([]byte, 6)) {
		t.Errorf("R4: wiping turned what was handed in: %v", whole)
	}
}

func TestR4WhatIsHandedOutIsNotTheArenasOwn(t *testing.T) {
	a, all := made(t, 2, 10)
	whole := list{{At: 0, N: 10}}
	var got [][]byte
	for range 2 {
		read, _ := a.Read(0, 0, 10)
		part, _ := a.Read(0, 3, 4)
		gathered, _ := a.Gather(0, whole)
		none, _ := a.Read(0, 5, 0)
		got = append(got, read, part, gathered, none)
	}
	want := [][]byte{bytes.Clone(all[0]), bytes.Clone(all[0][3:7]), bytes.Clone(all[0]), nil}
	for _, b := range got[:4] { // with the room behind their ends, too
		clear(b[:cap(b)])
		_ = append(b, 99)
	}
	look(t, a, all, "turning what was handed out")
	a.Write(0, 0, []byte("0123456789"))
	a.Wipe(1)
	for i, b := range got[4:] {
		if !bytes.Equal(b, want[i]) {
			t.Errorf("R4: what was read, %v, is turned by a later call, or by another answer: %v", want[i], b)
		}
	}
}

// The same calls on another arena answer the same; errors and reads are not to be seen later on.
func TestR5SameEachTime(t *testing.T) {
	life := func(more bool) []byte {
		a, _ := made(t, 3, 12)
		if more {
			a.Read(1, 11, 2)
			a.Write(1, 11, []byte("xy"))
			a.Gather(1, list{{At: 0, N: 12}, {At: 3, N: 3}})
			a.Scatter(1, list{{At: 0, N: 2}}, []byte("xyz"))
			a.Wipe(3)
		}
		a.Scatter(1, list{{At: 7, N: 3}, {At: 2, N: 2}}, []byte("12345"))
		b, _ := a.Gather(1, list{{At: 0, N: 12}})
		return b
	}
	first := life(false)
	for range 10 {
		if again := life(true); !bytes.Equal(again, first) {
			t.Fatalf("R5: the same calls lead to %v, and to %v", first, again)
		}
	}
}

func TestExampleOfTheChapter(t *testing.T) {
	a, _ := arena.New(1, 3)
	e := a.Scatter(0, list{{At: 2, N: 1}, {At: 0, N: 2}}, []byte("abc"))
	if b, f := a.Read(0, 0, 3); e != api.OK || f != api.OK || string(b) != "bca" {
		t.Errorf("example 1: %d, %q, %d", e, b, f)
	}
}
