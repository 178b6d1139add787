package lanes_test

import (
	"bytes"
	"encoding/hex"
	"math"
	"slices"
	"strings"
	"testing"

	"palfrey/lanes"
	"palfrey/sha"
)

// drawn makes bytes that look like chance, and are the same each time.
func drawn(seed uint64) func(n int) []byte {
	return func(n int) []byte {
		b := make([]byte, n)
		for i := range b {
			seed = seed*6364136223846793005 + 1442695040888963407
			b[i] = byte(seed >> 56)
		}
		return b
	}
}

// messages are of so many bytes each, no two of one length the same.
func messages(draw func(n int) []byte, long []int) [][]byte {
	var l [][]byte
	for _, n := range long {
		l = append(l, draw(n))
	}
	return l
}

// blocksOf counts the blocks of a message of n bytes, padded, a nought at a time.
func blocksOf(n int) int {
	n = max(n, 0) + 1
	for n%64 != 56 {
		n++
	}
	return (n + 8) / 64
}

// slow goes through the lanes step by step, as the chapter's words say: in which order messages leave, and how many steps there are.
func slow(long []int) (order []int, steps int) {
	const none = -1
	message, left, next := []int{none, none, none, none}, make([]int, 4), 0
	for {
		for lane := range 4 {
			if message[lane] == none && next < len(long) {
				message[lane], left[lane] = next, blocksOf(long[next])
				next++
			}
		}
		if !slices.ContainsFunc(message, func(m int) bool { return m != none }) {
			return order, steps
		}
		for lane := range 4 {
			if message[lane] == none {
				continue
			}
			left[lane]--
			if left[lane] == 0 {
				order = append(order, message[lane])
				message[lane] = none
			}
		}
		steps++
	}
}

// look holds Sums of messages of these lengths, and Order, against the slow words and against each message alone.
func look(t *testing.T, draw func(n int) []byte, long []int) {
	t.Helper()
	order, steps := slow(long)
	if got := lanes.Order(long); !slices.Equal(got, order) {
		t.Fatalf("P13.1: Order(%v) = %v, not %v", long, got, order)
	}
	l := messages(draw, long)
	sums, n := lanes.Sums(l)
	if len(sums) != len(l) || n != steps {
		t.Fatalf("P13.1: Sums of messages of %v bytes: %d sums, %d steps, not %d, %d", long, len(sums), n, len(l), steps)
	}
	for i, b := range l {
		if want := sha.Sum(b); sums[i] != want {
			t.Fatalf("P13.2: of messages of %v bytes the sum %d = %x, not %x", long, i, sums[i], want)
		}
	}
}

// lists calls do with each list of at most so many of these numbers.
func lists(most int, of []int, do func(l []int)) {
	var add func(l []int)
	add = func(l []int) {
		do(l)
		if len(l) == most {
			return
		}
		for _, n := range of {
			add(append(slices.Clone(l), n))
		}
	}
	add(nil)
}

// edges are lengths whose padding just fits the last block, or needs one more, and those about them.
func edges() []int {
	return []int{0, 1, 2, 54, 55, 56, 57, 62, 63, 64, 65, 66, 118, 119, 120, 121, 127, 128, 129, 183, 184, 191, 192, 193}
}

func TestP131OfNoMessage(t *testing.T) {
	for _, l := range [][][]byte{nil, {}, [][]byte{{1}, {2}}[:0]} {
		if sums, n := lanes.Sums(l); len(sums) != 0 || n != 0 {
			t.Errorf("P13.1: Sums of none = %x, %d", sums, n)
		}
	}
	for _, l := range [][]int{nil, {}, []int{1, 2}[:0]} {
		if order := lanes.Order(l); len(order) != 0 {
			t.Errorf("P13.1: Order of none = %v", order)
		}
	}
}

// The sums of the standard's texts, all together and by each number of them, written out: they hang on no layer of the program.
func TestP131OfTheStandardsTexts(t *testing.T) {
	texts := []string{
		"abc",
		"",
		"abcdefghbcdefghicdefghijdefghijkefghijklfghijklmghijklmnhijklmnoijklmnopjklmnopqklmnopqrlmnopqrsmnopqrstnopqrstu",
		"abcdbcdecdefdefgefghfghighijhijkijkljklmklmnlmnomnopnopq",
		strings.Repeat("a", 1000),
		"The quick brown fox jumps over the lazy dog",
	}
	want := []string{
		"ba7816bf8f01cfea414140de5dae2223b00361a396177a9cb410ff61f20015ad",
		"e3b0c44298fc1c149afbf4c8996fb92427ae41e4649b934ca495991b7852b855",
		"cf5b16a778af8380036ce59e7b0492370b249b11e8f07a51afac45037afee9d1",
		"248d6a61d20638b8e5c026930c3e6039a33ce45964ff2167f6ecedd419db06c1",
		"41edece42d63e8d9bf515a9ba6932e1c20cbc9f5a5d134645adb5db1b9737ea3",
		"d7a8fbb307d7809469ca9abcb0082e4f8d5651e46d3cdb762d02d0bf37c9e592",
	}
	steps := []int{0, 1, 1, 2, 2, 17, 17}
	var l [][]byte
	for many := range len(texts) + 1 {
		sums, n := lanes.Sums(l)
		if len(sums) != many || n != steps[many] {
			t.Fatalf("P13.1: of %d texts: %d sums, %d steps, not %d", many, len(sums), n, steps[many])
		}
		for i, sum := range sums {
			if got := hex.EncodeToString(sum[:]); got != want[i] {
				t.Errorf("P13.1: the sum of %q, among %d, = %s, not %s", texts[i], many, got, want[i])
			}
		}
		if many < len(texts) {
			l = append(l, []byte(texts[many]))
		}
	}
}

// One message, two, three, four, five ..: all as long, about the ends of blocks.
func TestP131AllAsLong(t *testing.T) {
	draw := drawn(1)
	for _, n := range edges() {
		for many := range 14 {
			long := slices.Repeat([]int{n}, many)
			look(t, draw, long)
			if _, steps := lanes.Sums(messages(draw, long)); steps != (many+3)/4*blocksOf(n) {
				t.Errorf("P13.1: %d messages of %d bytes: %d steps", many, n, steps)
			}
		}
	}
}

// How many blocks a message of n bytes has, written out: as many steps as it goes alone.
func TestP131PaddingAboutABlocksEnd(t *testing.T) {
	for n, want := range map[int]int{0: 1, 1: 1, 54: 1, 55: 1, 56: 2, 57: 2, 63: 2, 64: 2, 65: 2, 118: 2, 119: 2, 120: 3, 121: 3, 127: 3, 128: 3, 183: 3, 184: 4, 1000: 16, 1015: 16, 1016: 17} {
		b := bytes.Repeat([]byte{byte(n)}, n)
		if sums, steps := lanes.Sums([][]byte{b}); steps != want || sums[0] != sha.Sum(b) {
			t.Errorf("P13.1: a message of %d bytes: %x, %d steps, not %d", n, sums, steps, want)
		}
	}
	// Each stands against one of another length: who leaves first shows how many blocks each has.
	for _, c := range []struct{ l, want []int }{
		{[]int{56, 55}, []int{1, 0}}, {[]int{55, 0}, []int{0, 1}}, {[]int{119, 56}, []int{0, 1}},
		{[]int{120, 119}, []int{1, 0}}, {[]int{64, 63}, []int{0, 1}}, {[]int{64, 55}, []int{1, 0}},
	} {
		if got := lanes.Order(c.l); !slices.Equal(got, c.want) {
			t.Errorf("P13.1: Order(%v) = %v, not %v", c.l, got, c.want)
		}
	}
}

// Every list of up to six messages of one, two or three blocks: all ways in which few lanes are taken, left and taken again.
func TestP131EveryShortList(t *testing.T) {
	draw := drawn(2)
	lists(6, []int{0, 56, 120}, func(long []int) { look(t, draw, long) })
}

// The same with Order alone, with more messages, and with a number below 0.
func TestP131OrderOfEveryShortList(t *testing.T) {
	lists(8, []int{-1, 63, 190}, func(long []int) {
		want, _ := slow(long)
		if got := lanes.Order(long); !slices.Equal(got, want) {
			t.Fatalf("P13.1: Order(%v) = %v, not %v", long, got, want)
		}
	})
}

// Lanes take one short message after the other, while others go on.
func TestP131OfVeryDifferentLengths(t *testing.T) {
	draw := drawn(3)
	for _, long := range [][]int{
		{5000, 0, 0, 0, 0, 0, 0, 0, 0, 0, 0, 0, 0},
		{0, 0, 0, 5000, 1, 2, 3, 4, 5, 6, 7, 8, 9, 10},
		{0, 5000, 1, 4000, 2, 3000, 3, 2000, 4, 1000, 5},
		{0, 1, 2, 3, 4, 5, 6, 7, 8, 20000},
		{20000, 64, 10000, 128, 5000, 192, 2500, 256},
		{1000, 1000, 1000, 3, 55, 56, 119, 120, 1000, 183, 184, 64},
	} {
		look(t, draw, long)
	}
	for range 200 {
		var long []int
		for range int(draw(1)[0]) % 24 {
			d := draw(3)
			long = append(long, []int{int(d[0]), 64 * (int(d[0]) % 5), 55 + int(d[0])%3, 16 * int(d[0])}[d[1]%4])
		}
		look(t, draw, long)
	}
}

func TestP131OrderBelowNought(t *testing.T) {
	for _, c := range []struct{ l, want []int }{
		{[]int{-1}, []int{0}},
		{[]int{math.MinInt}, []int{0}},
		{[]int{-56, -64, -65, -1000}, []int{0, 1, 2, 3}},
		{[]int{56, -1}, []int{1, 0}},
		{[]int{0, -1, 55, math.MinInt, 56, -57}, []int{0, 1, 2, 3, 5, 4}},
		{[]int{120, 56, -120, -56, -1, -2, -3}, []int{2, 3, 1, 4, 5, 0, 6}},
	} {
		if got := lanes.Order(c.l); !slices.Equal(got, c.want) {
			t.Errorf("P13.1: Order(%v) = %v, not %v", c.l, got, c.want)
		}
	}
}

// Of several that leave in one step the lower lane goes first, not the lower number.
func TestP131OrderOfSeveralInOneStep(t *testing.T) {
	for _, c := range []struct{ l, want []int }{
		{[]int{0, 0, 0, 0}, []int{0, 1, 2, 3}},
		{[]int{56, 56, 56, 56, 56}, []int{0, 1, 2, 3, 4}},
		{[]int{120, 56, 0, 0, 0, 0}, []int{2, 3, 1, 4, 5, 0}},           // 1 is in the lane ahead of those of 4 and 5
		{[]int{0, 56, 56, 56, 0}, []int{0, 4, 1, 2, 3}},                 // 4 is in the lowest lane
		{[]int{0, 0, 56, 120, 120, 0}, []int{0, 1, 5, 2, 3, 4}},         // 5 is in the lane 1, 2 in the next one
		{[]int{0, 0, 56, 120, 120, 64, 64}, []int{0, 1, 2, 5, 3, 4, 6}}, // 5 is in the lane 1, 3 in the last one; 4 and 6 leave last
	} {
		want, _ := slow(c.l)
		if got := lanes.Order(c.l); !slices.Equal(got, c.want) || !slices.Equal(want, c.want) {
			t.Errorf("P13.1: Order(%v) = %v, not %v (slow: %v)", c.l, got, c.want, want)
		}
	}
}

// Order goes by numbers alone: messages that could never be summed have an order, too, and it is told at once.
func TestP131OrderOfGreatNumbers(t *testing.T) {
	const m = math.MaxInt // 63 above a multiple of 64
	for _, c := range []struct{ l, want []int }{
		{[]int{m}, []int{0}},
		{[]int{m, m - 7, m - 8}, []int{2, 0, 1}}, // the last one's padding just fits
		{[]int{m - 8, m - 71}, []int{0, 1}},      // 63 bytes less, but as many blocks: its padding needs one more
		{[]int{m - 8, m - 72}, []int{1, 0}},
		{[]int{m - 7, m - 8 - 64, m - 8}, []int{1, 2, 0}},
		{[]int{m, 5, 4, 3, 2, 1, 0, math.MinInt}, []int{1, 2, 3, 4, 5, 6, 7, 0}},
		{[]int{m, m, m, m, 0, 0, 0}, []int{0, 1, 2, 3, 4, 5, 6}},
		{[]int{m, m - 64, 1 << 40, 1 << 50, 1 << 41, m - 1<<41}, []int{2, 4, 3, 1, 0, 5}},
	} {
		if got := lanes.Order(c.l); !slices.Equal(got, c.want) {
			t.Errorf("P13.1: Order(%v) = %v, not %v", c.l, got, c.want)
		}
	}
	// As many steps as these have are beyond every number.
	var want []int
	for i := range 1001 {
		want = append(want, i)
	}
	if got := lanes.Order(slices.Repeat([]int{m}, 1001)); !slices.Equal(got, want) {
		t.Errorf("P13.1: Order of many of the greatest length = %v", got)
	}
}

// Each number is told once.
func TestP131OrderOfManyMessages(t *testing.T) {
	draw := drawn(4)
	for range 20 {
		var long []int
		for _, d := range draw(300) {
			long = append(long, 16*int(d)-64)
		}
		want, _ := slow(long)
		got := lanes.Order(long)
		if !slices.Equal(got, want) {
			t.Fatalf("P13.1: Order(%v) = %v, not %v", long, got, want)
		}
		slices.Sort(got)
		for i, n := range got {
			if i != n {
				t.Fatalf("P13.1: Order tells %v, which are not all numbers", got)
			}
		}
	}
}

// At least as many steps as the longest message has blocks, and as a quarter of all; at most as many as both together.
func TestP132HowManySteps(t *testing.T) {
	draw := drawn(5)
	for range 300 {
		var long []int
		for range int(draw(1)[0]) % 20 {
			d := draw(2)
			long = append(long, int(d[0])<<(d[1]%4))
		}
		_, steps := lanes.Sums(messages(draw, long))
		longest, all := 0, 0
		for _, n := range long {
			longest, all = max(longest, blocksOf(n)), all+blocksOf(n)
		}
		if steps < longest || 4*steps < all || 4*steps > 4*longest+all {
			t.Errorf("P13.2: %d steps; the longest has %d blocks, all have %d", steps, longest, all)
		}
	}
}

// What a message is summed to is the same wherever it stands, and whatever stands by it.
func TestP132EachSumIsItsMessagesAlone(t *testing.T) {
	draw := drawn(6)
	for _, n := range edges() {
		b := draw(n)
		want := sha.Sum(b)
		for at := range 9 {
			for range 3 {
				long := make([]int, 9)
				for i := range long {
					long[i] = int(draw(1)[0])
				}
				l := messages(draw, long)
				l[at] = b
				if sums, _ := lanes.Sums(l); sums[at] != want {
					t.Fatalf("P13.2: a message of %d bytes at %d, among %v: %x, not %x", n, at, long, sums[at], want)
				}
			}
		}
	}
}

// One other bit of a message turns its own sum alone, and no step.
func TestP132OneOtherBit(t *testing.T) {
	draw := drawn(7)
	l := messages(draw, []int{55, 56, 0, 64, 119, 120, 200, 3})
	sums, steps := lanes.Sums(l)
	for i, b := range l {
		for _, at := range []int{0, len(b) / 2, len(b) - 1} {
			if len(b) == 0 {
				continue
			}
			b[at] ^= 1
			turned, n := lanes.Sums(l)
			b[at] ^= 1
			for j := range l {
				if (turned[j] == sums[j]) != (i != j) {
					t.Errorf("P13.2: the message %d with another bit at %d: the sum %d = %x, and was %x", i, at, j, turned[j], sums[j])
				}
			}
			if n != steps {
				t.Errorf("P13.2: the message %d with another bit: %d steps, not %d", i, n, steps)
			}
		}
	}
}

// Messages may be the same, or share their bytes: they are but read.
func TestP132MessagesThatShareBytes(t *testing.T) {
	b := drawn(8)(300)
	var l [][]byte
	for i := range 20 {
		l = append(l, b[3*i:300-11*i], b, b[:i], nil)
	}
	sums, _ := lanes.Sums(l)
	for i := range l {
		if sums[i] != sha.Sum(l[i]) {
			t.Errorf("P13.2: the message %d, that shares its bytes: %x", i, sums[i])
		}
	}
}

func TestR4NothingHandedInIsChanged(t *testing.T) {
	draw := drawn(9)
	const spare = 130 // more than any padding has
	var whole, before, l [][]byte
	var long []int
	for _, n := range edges() {
		b := draw(n + spare)
		whole, before, l, long = append(whole, b), append(before, bytes.Clone(b)), append(l, b[:n]), append(long, n)
	}
	list := append(slices.Clone(l), []byte("behind the end"))
	first, _ := lanes.Sums(list[:len(l)])
	for i := range whole {
		if !bytes.Equal(whole[i], before[i]) {
			t.Errorf("R4: a message of %d bytes, or the room behind it, was changed", long[i])
		}
		if len(list[i]) != long[i] || &list[i][:1][0] != &whole[i][0] {
			t.Errorf("R4: the list has another message of %d bytes", long[i])
		}
		for j := long[i]; j < len(whole[i]); j++ { // the room behind has no say
			whole[i][j] ^= 255
		}
	}
	if string(list[len(l)]) != "behind the end" {
		t.Error("R4: the room behind the list was changed")
	}
	if again, _ := lanes.Sums(l); !slices.Equal(again, first) {
		t.Error("R4: what stands behind the messages changed their sums")
	}
	numbers := append(slices.Clone(long), -5, math.MinInt, 77, 78)
	same := slices.Clone(numbers)
	lanes.Order(numbers[:len(numbers)-2])
	if !slices.Equal(numbers, same) {
		t.Errorf("R4: Order changed its numbers to %v", numbers)
	}
}

func TestR4NothingIsKeptAndWhatIsHandedOutIsNew(t *testing.T) {
	draw := drawn(10)
	long := []int{100, 0, 56, 300, 1}
	l := messages(draw, long)
	sums, _ := lanes.Sums(l)
	same := slices.Clone(sums)
	other, _ := lanes.Sums(l)
	clear(other[:cap(other)])
	for _, b := range l {
		clear(b)
	}
	if !slices.Equal(sums, same) {
		t.Error("R4: sums hang on what was done with the messages, or with another answer, later on")
	}
	order := lanes.Order(long)
	sameOrder := slices.Clone(order)
	again := lanes.Order(long)
	clear(again[:cap(again)])
	if !slices.Equal(long, []int{100, 0, 56, 300, 1}) {
		t.Errorf("R4: Order shares memory with its numbers: %v", long)
	}
	clear(long)
	if !slices.Equal(order, sameOrder) {
		t.Errorf("R4: an order hangs on what was done with its numbers, or with another answer, later on: %v", order)
	}
}

// What came ahead is not to be seen.
func TestR5SameEachTime(t *testing.T) {
	draw := drawn(11)
	long := []int{70, 0, 200, 55, 56, 9, 120}
	l := messages(draw, long)
	sums, steps := lanes.Sums(l)
	order := lanes.Order(long)
	for range 20 {
		lanes.Sums(messages(draw, []int{300, 5, 64, 64, 1}))
		lanes.Order([]int{500, 5, -1})
		if again, n := lanes.Sums(l); !slices.Equal(again, sums) || n != steps || !slices.Equal(lanes.Order(long), order) {
			t.Fatal("R5: the same call answers otherwise")
		}
	}
}

func TestExampleOfTheChapter(t *testing.T) {
	if sums, n := lanes.Sums(messages(drawn(12), []int{0, 55, 3, 20, 41})); len(sums) != 5 || n != 2 {
		t.Errorf("example 1: %d sums, %d steps", len(sums), n)
	}
}
