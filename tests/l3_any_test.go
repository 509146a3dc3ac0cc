package tests

import (
	"math"
	"slices"
	"strconv"
	"strings"
	"testing"

	"loop.example/g00549/impl"
)

// told is what a function of chapter 3 tells, whichever it is.
type told struct {
	bits []bool
	taps []int
	n    int
	text string
	is   bool
	ok   bool
}

// streamCall is one call of a function of chapter 3 that takes lists.
type streamCall struct {
	name   string
	taps   []int
	first  []bool
	second []bool
	n      int
}

func (c streamCall) run() told {
	var out told
	switch c.name {
	case "GoodTaps":
		out.ok = impl.GoodTaps(c.taps)
	case "StreamOf":
		out.bits, out.ok = impl.StreamOf(c.taps, c.first, c.n)
	case "ShortestTaps":
		out.taps, out.n, out.ok = impl.ShortestTaps(c.first)
	case "MakesBits":
		out.is, out.ok = impl.MakesBits(c.taps, c.n, c.first)
	case "PeriodOf":
		out.n, out.ok = impl.PeriodOf(c.taps, c.first)
	case "UnlikeBits":
		out.bits, out.ok = impl.UnlikeBits(c.first, c.second)
	case "TextOf":
		out.text, out.ok = impl.TextOf(c.first)
	case "RunsOf":
		out.taps, out.ok = impl.RunsOf(c.first)
	}
	return out
}

func (x told) isAlike(y told) bool {
	return slices.Equal(x.bits, y.bits) && slices.Equal(x.taps, y.taps) && x.n == y.n && x.text == y.text && x.is == y.is && x.ok == y.ok
}

func isRefusedStream(t *testing.T, c streamCall) {
	t.Helper()
	if got := c.run(); !got.isAlike(told{}) {
		t.Errorf("%+v: %+v", c, got)
	}
}

func wrongCounts() []int {
	return []int{math.MinInt, math.MinInt + 1, -impl.MaxBits, -1, impl.MaxBits + 1, 1 << 32, math.MaxInt - 1, math.MaxInt}
}

// longBits are more bits than there is room for.
func longBits() [][]bool {
	return [][]bool{make([]bool, impl.MaxBits+1), bitsFrom(strings.Repeat("1", impl.MaxBits+1)), bitsFrom(strings.Repeat("01", 24)), make([]bool, 48), make([]bool, 100000)}
}

func TestWrongTapsGetTheZeroAnswer(t *testing.T) {
	for _, taps := range wrongTaps() {
		for _, many := range append(wrongCounts(), 0, 1, 3, 12, 13, impl.MaxBits) {
			for _, long := range []int{0, 1, 2, 3, 5, 6, 12, 13, 40, 1000} {
				first := bitsIn(1<<20-1, long)
				isRefusedStream(t, streamCall{name: "StreamOf", taps: taps, first: first, n: many})
				isRefusedStream(t, streamCall{name: "MakesBits", taps: taps, first: first, n: many})
				isRefusedStream(t, streamCall{name: "PeriodOf", taps: taps, first: first})
			}
		}
		isRefusedStream(t, streamCall{name: "GoodTaps", taps: taps})
	}
}

func TestWrongCountsGetTheZeroAnswer(t *testing.T) {
	for _, n := range wrongCounts() {
		for _, taps := range [][]int{nil, {1}, {2, 3}, {12}} {
			for _, first := range firstsFor(taps) {
				isRefusedStream(t, streamCall{name: "StreamOf", taps: taps, first: first, n: n})
				isRefusedStream(t, streamCall{name: "MakesBits", taps: taps, first: first, n: n})
			}
			isRefusedStream(t, streamCall{name: "MakesBits", taps: taps, n: n})
		}
	}
}

func TestTapsAboveLongGetTheZeroAnswer(t *testing.T) {
	for _, taps := range allTaps() {
		for long := range greatest(taps) {
			isRefusedStream(t, streamCall{name: "MakesBits", taps: taps, n: long})
			isRefusedStream(t, streamCall{name: "MakesBits", taps: taps, first: make([]bool, impl.MaxBits), n: long})
		}
	}
}

func TestOtherThanTheFirstBitsGetTheZeroAnswer(t *testing.T) {
	for _, taps := range [][]int{nil, {1}, {2}, {1, 2}, {2, 3}, {1, 11}, {12}, {1, 4, 6, 12}} {
		for long := range 50 {
			if long == greatest(taps) {
				continue
			}
			for _, first := range [][]bool{make([]bool, long), bitsIn(1<<50-1, long)} {
				isRefusedStream(t, streamCall{name: "PeriodOf", taps: taps, first: first})
				for _, many := range []int{0, 1, long, 12, impl.MaxBits} {
					isRefusedStream(t, streamCall{name: "StreamOf", taps: taps, first: first, n: many})
				}
			}
		}
	}
}

func TestFalseBitsHaveNoPeriod(t *testing.T) {
	for _, taps := range allTaps() {
		isRefusedStream(t, streamCall{name: "PeriodOf", taps: taps, first: make([]bool, greatest(taps))})
	}
	isRefusedStream(t, streamCall{name: "PeriodOf"})
	isRefusedStream(t, streamCall{name: "PeriodOf", taps: []int{}, first: []bool{}})
}

func TestTooManyBitsGetTheZeroAnswer(t *testing.T) {
	for _, bits := range longBits() {
		for _, name := range []string{"ShortestTaps", "TextOf", "RunsOf", "PeriodOf", "StreamOf", "MakesBits"} {
			isRefusedStream(t, streamCall{name: name, first: bits})
			isRefusedStream(t, streamCall{name: name, first: bits, taps: []int{1}, n: impl.MaxBits})
		}
		isRefusedStream(t, streamCall{name: "UnlikeBits", first: bits, second: bits})
		isRefusedStream(t, streamCall{name: "UnlikeBits", first: bits, second: bits[:impl.MaxBits]})
		isRefusedStream(t, streamCall{name: "UnlikeBits", first: bits[:impl.MaxBits], second: bits})
	}
}

func TestListsThatAreNotAsLong(t *testing.T) {
	for a := range 50 {
		for b := range 50 {
			if a != b {
				isRefusedStream(t, streamCall{name: "UnlikeBits", first: bitsIn(0x333, a), second: bitsIn(0x555, b)})
			}
		}
	}
}

func TestWrongTextsGetTheZeroAnswer(t *testing.T) {
	for _, s := range []string{"sixbyt", "\x00\x00\x00\x00\x00\x00", "€€", "ééé", strings.Repeat("x", 5000)} {
		if bits, ok := impl.BitsOf(s); ok || len(bits) != 0 {
			t.Errorf("BitsOf %q: %v", s, bits)
		}
	}
	if bits, ok := impl.BitsOf("5byte"); !ok || len(bits) != mostBytes*8 {
		t.Error(bits, ok)
	}
}

func TestBitsThatMakeNoBytes(t *testing.T) {
	for many := range 200 {
		if many%8 != 0 || many > impl.MaxBits {
			isRefusedStream(t, streamCall{name: "TextOf", first: make([]bool, many)})
			isRefusedStream(t, streamCall{name: "TextOf", first: bitsIn(1<<50-1, many)})
		}
	}
}

// anyStreamCalls are calls of each function, good ones and others.
func anyStreamCalls() []streamCall {
	var out []streamCall
	tapLists := append(wrongTaps()[:20], nil, []int{1}, []int{2, 3}, []int{12}, []int{1, 4, 6, 12}, tapsIn(1<<12-1))
	bitLists := append(longBits()[:3], nil, bitsFrom("0"), bitsFrom("1"), bitsFrom("001"), bitsFrom("10110111"),
		bitsIn(0xa01, 12), bitsIn(0x123456, 24), bitsIn(0xfedcba9876, 40))
	for _, taps := range tapLists {
		for _, bits := range bitLists {
			for _, n := range []int{-1, 0, 3, 12, 40, 41} {
				out = append(out, streamCall{"StreamOf", taps, bits, nil, n}, streamCall{"MakesBits", taps, bits, nil, n})
			}
			out = append(out, streamCall{"PeriodOf", taps, bits, nil, 0})
		}
		out = append(out, streamCall{"GoodTaps", taps, nil, nil, 0})
	}
	for _, a := range bitLists {
		for _, b := range bitLists {
			out = append(out, streamCall{"UnlikeBits", nil, a, b, 0})
		}
		for _, name := range []string{"ShortestTaps", "TextOf", "RunsOf"} {
			out = append(out, streamCall{name, nil, a, nil, 0})
		}
	}
	return out
}

// withRoom is l with other memory behind its length, and all of that memory.
func withRoom[E any](l []E, behind E) ([]E, []E) {
	all := append(slices.Clone(l), behind, behind, behind, behind, behind, behind, behind, behind, behind, behind, behind, behind, behind)
	return all[:len(l)], all
}

func TestStreamsNeitherWriteNorShare(t *testing.T) {
	for _, c := range anyStreamCalls() {
		given := c
		var taps []int
		var first, second []bool
		given.taps, taps = withRoom(c.taps, 7)
		given.first, first = withRoom(c.first, true)
		given.second, second = withRoom(c.second, true)
		wereTaps, wereFirst, wereSecond := slices.Clone(taps), slices.Clone(first), slices.Clone(second)
		isKept := func() bool {
			return slices.Equal(taps, wereTaps) && slices.Equal(first, wereFirst) && slices.Equal(second, wereSecond)
		}
		got := given.run()
		if !isKept() {
			t.Fatalf("%+v writes into an argument", c)
		}
		if !got.isAlike(c.run()) {
			t.Errorf("%+v hangs on what lies behind the lists", c)
		}
		if slices.Contains(got.bits[len(got.bits):cap(got.bits)], true) || slices.Max(append(got.taps[len(got.taps):cap(got.taps)], 0)) != 0 {
			t.Errorf("%+v hands out what lies behind", c)
		}
		scribbleOver(got.bits, func(b bool) bool { return !b })
		scribbleOver(got.taps, func(n int) int { return n + 77 })
		if !isKept() {
			t.Fatalf("%+v shares memory with an argument", c)
		}
		if !given.run().isAlike(c.run()) {
			t.Errorf("%+v is another one the second time", c)
		}
	}
}

// scribbleOver changes all memory that a list holds, behind its length too.
func scribbleOver[E any](l []E, to func(E) E) {
	l = l[:cap(l)]
	for i := range l {
		l[i] = to(l[i])
	}
}

func TestBitsOfAnswersNewEachTime(t *testing.T) {
	for _, s := range textsThere() {
		bits, _ := impl.BitsOf(s)
		was := slices.Clone(bits)
		scribbleOver(bits, func(b bool) bool { return !b })
		again, ok := impl.BitsOf(s)
		isThose(t, "BitsOf "+strconv.Quote(s), again, ok, was)
	}
}

func TestTheNilListsAreTheEmptyOnes(t *testing.T) {
	for _, c := range anyStreamCalls() {
		empty := c
		if len(c.taps) == 0 {
			empty.taps = []int{}
		}
		if len(c.first) == 0 {
			empty.first = []bool{}
		}
		if len(c.second) == 0 {
			empty.second = []bool{}
		}
		if !empty.run().isAlike(c.run()) {
			t.Errorf("%+v", c)
		}
	}
}
