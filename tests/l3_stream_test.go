package tests

import (
	"fmt"
	"slices"
	"testing"

	"loop.example/g00549/impl"
)

func TestStreamLimits(t *testing.T) {
	if impl.MaxBits != 40 || impl.MaxTaps != 12 {
		t.Error(impl.MaxBits, impl.MaxTaps)
	}
}

func TestGoodTaps(t *testing.T) {
	for _, taps := range allTaps() {
		if !impl.GoodTaps(taps) {
			t.Errorf("%v are good", taps)
		}
	}
	if !impl.GoodTaps(nil) || !impl.GoodTaps([]int{}) {
		t.Error("no taps are good")
	}
	for _, taps := range wrongTaps() {
		if impl.GoodTaps(taps) {
			t.Errorf("%v are not good", taps)
		}
	}
}

// isShortest fails the test unless the answer for bits is what it should be:
// taps that do, with the least long, by Massey's way, or none if they are
// greater than MaxTaps.
func isShortest(t *testing.T, bits []bool) {
	t.Helper()
	taps, long, ok := impl.ShortestTaps(bits)
	mask, least := masseyThere(bits)
	if mask>>impl.MaxTaps != 0 {
		if len(taps) != 0 || long != 0 || ok {
			t.Errorf("%v: %v %d %v, but the taps have no room", bits, taps, long, ok)
		}
		return
	}
	if !ok || long != least || !slices.Equal(taps, tapsIn(int(mask))) {
		t.Errorf("%v: %v %d %v, want %v %d", bits, taps, long, ok, tapsIn(int(mask)), least)
	}
	if !impl.GoodTaps(taps) || greatest(taps) > long || !makesThere(maskOf(taps), long, bits) {
		t.Errorf("%v: %v %d do not make them", bits, taps, long)
	}
	if is, ok := impl.MakesBits(taps, long, bits); !is || !ok {
		t.Errorf("%v: %v %d make them: %v %v", bits, taps, long, is, ok)
	}
	if long > 0 && someTapsDo(bits, long-1) {
		t.Errorf("%v: %d is not the least long", bits, long)
	}
}

func TestShortestOfAllFewBits(t *testing.T) {
	for many := range 13 {
		for n := range 1 << many {
			isShortest(t, bitsIn(n, many))
		}
	}
}

// Every taps with a lesser long are tried, one after another.
func TestNoTapsWithALesserLongDo(t *testing.T) {
	for many := range 13 {
		for n := range 1 << many {
			bits := bitsIn(n, many)
			_, long, ok := impl.ShortestTaps(bits)
			if !ok {
				t.Fatalf("%v: few bits have room", bits)
			}
			for lesser := range long {
				for mask := range uint64(1) << lesser {
					if makesThere(mask, lesser, bits) {
						t.Fatalf("%v: %d, but %b makes them with %d", bits, long, mask, lesser)
					}
				}
			}
		}
	}
}

func TestShortestOfMoreBits(t *testing.T) {
	room, none := 0, 0
	for _, bits := range someBits() {
		isShortest(t, bits)
		if longThere(bits) > impl.MaxTaps {
			none++
		} else {
			room++
		}
	}
	if room < 1000 || none < 1000 {
		t.Error("there are too few bits of one kind:", room, none)
	}
}

func isTaps(t *testing.T, bits string, wantLong int, want ...int) {
	t.Helper()
	taps, long, ok := impl.ShortestTaps(bitsFrom(bits))
	if !ok || long != wantLong || !slices.Equal(taps, want) {
		t.Errorf("%s: %v %d %v, want %v %d", bits, taps, long, ok, want, wantLong)
	}
}

func hasNoTaps(t *testing.T, bits string) {
	t.Helper()
	if taps, long, ok := impl.ShortestTaps(bitsFrom(bits)); ok || long != 0 || len(taps) != 0 {
		t.Errorf("%s: %v %d %v", bits, taps, long, ok)
	}
}

func noughts(many int) string {
	return fmt.Sprintf("%0*d", many, 0)
}

func TestShortestByHand(t *testing.T) {
	isTaps(t, "", 0)
	isTaps(t, "0", 0)
	isTaps(t, noughts(40), 0)
	isTaps(t, "1", 1, 1)
	isTaps(t, "11", 1, 1)
	isTaps(t, "10", 1) // long stays at place 1
	isTaps(t, "01", 2, 2)
	isTaps(t, "100", 1)
	isTaps(t, "101", 2, 2) // long changes at place 2
	isTaps(t, "110", 2, 1, 2)
	isTaps(t, "0010111", 3, 2, 3)
	isTaps(t, "1111111111111111111111111111111111111111", 1, 1)
	isTaps(t, "1010101010101010101010101010101010101010", 2, 2)
	isTaps(t, noughts(11)+"1", 12, 12)
	isTaps(t, noughts(11)+"1"+noughts(11)+"1"+noughts(11)+"1", 12, 12)
}

func TestShortestThatHaveNoRoom(t *testing.T) {
	hasNoTaps(t, noughts(12)+"1")
	hasNoTaps(t, noughts(39)+"1")
	hasNoTaps(t, noughts(12)+"1"+noughts(12))
	hasNoTaps(t, "1"+noughts(12)+"1")
	hasNoTaps(t, "1"+noughts(12)+"1"+noughts(12))
	// the long itself may be above MaxTaps where the taps are not
	isTaps(t, noughts(12)+"1"+noughts(13), 13)
	isTaps(t, noughts(12)+"1"+noughts(27), 13)
	isTaps(t, "1"+noughts(12)+"1"+noughts(13), 14)
	isTaps(t, "1"+noughts(18)+"1"+noughts(19), 20)
}

func TestMakesBits(t *testing.T) {
	for i, bits := range someBits() {
		if i%3 != 0 {
			continue
		}
		for _, taps := range [][]int{nil, {}, {1}, {2}, {1, 2}, {2, 3}, {1, 2, 3}, {12}, {1, 12}, tapsIn(1<<12 - 1)} {
			for _, long := range []int{greatest(taps), greatest(taps) + 1, 12, 13, 20, impl.MaxBits - 1, impl.MaxBits} {
				is, ok := impl.MakesBits(taps, long, bits)
				if !ok || is != makesThere(maskOf(taps), long, bits) {
					t.Errorf("%v %d %v: %v %v", taps, long, bits, is, ok)
				}
			}
		}
	}
}

func TestMakesEachOfFewBits(t *testing.T) {
	for many := range 9 {
		for n := range 1 << many {
			bits := bitsIn(n, many)
			for long := range 6 {
				for mask := range uint64(1) << long {
					is, ok := impl.MakesBits(tapsIn(int(mask)), long, bits)
					if !ok || is != makesThere(mask, long, bits) {
						t.Fatalf("%b %d %v: %v %v", mask, long, bits, is, ok)
					}
				}
			}
		}
	}
}

func TestMakesAtTheEdgesOfLong(t *testing.T) {
	one, last := bitsFrom("1"+noughts(39)), bitsFrom(noughts(39)+"1")
	for _, x := range []struct {
		taps []int
		long int
		bits []bool
		is   bool
	}{
		{nil, 0, nil, true}, {nil, impl.MaxBits, nil, true}, {[]int{12}, impl.MaxBits, nil, true},
		{nil, 0, one, false}, {nil, 1, one, true}, {nil, 39, last, false}, {nil, impl.MaxBits, last, true},
		{[]int{12}, 12, last, false}, {[]int{12}, impl.MaxBits, last, true}, {[]int{1}, 1, one, false}, {[]int{1}, 2, one, true},
	} {
		if is, ok := impl.MakesBits(x.taps, x.long, x.bits); is != x.is || !ok {
			t.Errorf("%v %d %v: %v %v", x.taps, x.long, x.bits, is, ok)
		}
	}
}

func TestStreamOf(t *testing.T) {
	for _, taps := range allTaps() {
		for _, first := range firstsFor(taps) {
			for _, many := range []int{0, 1, greatest(taps), 13, impl.MaxBits - 1, impl.MaxBits} {
				got, ok := impl.StreamOf(taps, first, many)
				if !ok || !slices.Equal(got, streamThere(taps, first, max(many, len(first)))[:many]) {
					t.Fatalf("%v %v %d: %v %v", taps, first, many, got, ok)
				}
				if is, ok := impl.MakesBits(taps, len(first), got); !is || !ok {
					t.Fatalf("%v %v %d: %v is not made by its taps", taps, first, many, got)
				}
			}
		}
	}
}

func TestStreamsOfEachLength(t *testing.T) {
	for _, taps := range [][]int{nil, {1}, {2}, {2, 3}, {12}, {1, 4, 6, 12}} {
		for _, first := range firstsFor(taps) {
			all := streamThere(taps, first, impl.MaxBits)
			for many := 0; many <= impl.MaxBits; many++ {
				got, ok := impl.StreamOf(taps, first, many)
				isThose(t, fmt.Sprint("StreamOf ", taps, first, many), got, ok, all[:many])
			}
		}
	}
	got, ok := impl.StreamOf([]int{}, []bool{}, 3)
	isThose(t, "StreamOf nothing", got, ok, []bool{false, false, false})
}

// A stream has no longer way than the one that it was made by.
func TestStreamsTellTheirTaps(t *testing.T) {
	for _, taps := range allTaps() {
		for _, first := range firstsFor(taps) {
			stream, _ := impl.StreamOf(taps, first, impl.MaxBits)
			found, long, ok := impl.ShortestTaps(stream)
			if !ok || long > len(first) {
				t.Fatalf("%v %v: %v %d %v", taps, first, found, long, ok)
			}
			again, ok := impl.StreamOf(taps, stream[:len(first)], impl.MaxBits)
			isThose(t, fmt.Sprint(taps, first), again, ok, stream)
		}
	}
}

// periodThere goes on until the bits that make all further ones are the first
// ones.
func periodThere(taps []int, first []bool) int {
	stream := streamThere(taps, first, mostPeriod+len(first))
	for p := 1; p <= mostPeriod; p++ {
		if slices.Equal(stream[p:p+len(first)], first) {
			return p
		}
	}
	return 0
}

func TestPeriodOf(t *testing.T) {
	longest := 0
	for n, taps := range allTaps() {
		for i, first := range firstsFor(taps) {
			if !slices.Contains(first, true) || (n+i)%4 != 0 && n > 300 {
				continue
			}
			p, ok := impl.PeriodOf(taps, first)
			if !ok || p != periodThere(taps, first) {
				t.Fatalf("%v %v: %d %v, want %d", taps, first, p, ok, periodThere(taps, first))
			}
			longest = max(longest, p)
		}
	}
	if longest != 1<<impl.MaxTaps-1 {
		t.Error("the longest period:", longest)
	}
}

func TestStreamsComeAgainAtTheirPeriod(t *testing.T) {
	met := 0
	for _, taps := range allTaps() {
		for _, first := range firstsFor(taps) {
			p, ok := impl.PeriodOf(taps, first)
			if !ok || p+len(first) > impl.MaxBits {
				continue
			}
			met++
			stream, _ := impl.StreamOf(taps, first, impl.MaxBits)
			if !slices.Equal(stream[p:], stream[:impl.MaxBits-p]) {
				t.Fatalf("%v %v do not come again at %d", taps, first, p)
			}
			for sooner := 1; sooner < p; sooner++ {
				if slices.Equal(stream[sooner:sooner+len(first)], first) {
					t.Fatalf("%v %v come again at %d, not at %d", taps, first, sooner, p)
				}
			}
		}
	}
	if met < 100 {
		t.Error("too few short periods:", met)
	}
}

func TestPeriodsByHand(t *testing.T) {
	one := bitsIn(1<<11, 12)
	for _, x := range []struct {
		taps  []int
		first []bool
		want  int
	}{
		{[]int{1}, []bool{true}, 1}, {[]int{1, 2, 3}, []bool{true, true, true}, 1}, {[]int{12}, bitsIn(1<<12-1, 12), 1},
		{[]int{2}, []bool{true, false}, 2}, {[]int{1, 2}, []bool{true, false}, 3}, {[]int{2, 3}, bitsFrom("001"), 7},
		{[]int{12}, one, 12}, {[]int{12}, bitsFrom("100100100100"), 3}, {[]int{6, 8, 11, 12}, one, 4095}, {[]int{1, 4, 6, 12}, one, 4095},
	} {
		if p, ok := impl.PeriodOf(x.taps, x.first); p != x.want || !ok {
			t.Errorf("%v %v: %d %v, want %d", x.taps, x.first, p, ok, x.want)
		}
	}
}

func TestUnlikeBits(t *testing.T) {
	for _, a := range someBits() {
		for _, n := range []int{0, 1<<40 - 1, 0x123456789a, 0x5555555555} {
			b := bitsIn(n, len(a))
			got, ok := impl.UnlikeBits(a, b)
			if !ok || len(got) != len(a) {
				t.Fatalf("%v %v: %v %v", a, b, got, ok)
			}
			for i := range a {
				if got[i] != (a[i] && !b[i] || !a[i] && b[i]) {
					t.Fatalf("%v %v: %v", a, b, got)
				}
			}
			back, ok := impl.UnlikeBits(got, b)
			isThose(t, "UnlikeBits back", back, ok, a)
		}
		none, ok := impl.UnlikeBits(a, a)
		isThose(t, "UnlikeBits of one list", none, ok, make([]bool, len(a)))
	}
}

func textsThere() []string {
	out := []string{"", "a", "ab", "hello", "\x00", "\x00\x00\x00\x00\x00", "\xff\xff\xff\xff\xff", "\x80\x01", "\xc3\xa9", "\xe2\x82\xac", "a\nb c", "\xff\x00\xff\x00\x01"}
	for b := range 256 {
		out = append(out, string([]byte{byte(b)}), string([]byte{byte(b), byte(255 - b), 7, byte(b * 5), byte(b)}))
	}
	return out
}

func TestBitsComeBackFromTheirText(t *testing.T) {
	for _, s := range textsThere() {
		bits, ok := impl.BitsOf(s)
		written := ""
		for i := range len(s) {
			written += fmt.Sprintf("%08b", s[i])
		}
		isThose(t, fmt.Sprintf("BitsOf %q", s), bits, ok, bitsFrom(written))
		if back, ok := impl.TextOf(bits); back != s || !ok {
			t.Errorf("%q comes back as %q %v", s, back, ok)
		}
	}
	for _, bits := range someBits() {
		s, ok := impl.TextOf(bits)
		if ok != (len(bits)%8 == 0) || len(s)*8 != len(bits) && ok {
			t.Errorf("TextOf %v: %q %v", bits, s, ok)
		}
		if !ok {
			continue
		}
		back, ok := impl.BitsOf(s)
		isThose(t, fmt.Sprintf("BitsOf %q", s), back, ok, bits)
	}
}

func TestRunsAddUpToTheBits(t *testing.T) {
	for _, bits := range someBits() {
		runs, ok := impl.RunsOf(bits)
		if !ok {
			t.Fatalf("%v: %v", bits, runs)
		}
		var back []bool
		for i, many := range runs {
			if many < 1 {
				t.Fatalf("%v: %v", bits, runs)
			}
			for range many {
				back = append(back, bits[0] == (i%2 == 0))
			}
		}
		isThose(t, fmt.Sprint("runs ", runs), back, true, bits)
	}
}

func TestRunsByHand(t *testing.T) {
	for bits, want := range map[string][]int{
		"": nil, "0": {1}, "1": {1}, "00": {2}, "01": {1, 1}, "110": {2, 1}, "0001101": {3, 2, 1, 1}, noughts(40): {40}, noughts(39) + "1": {39, 1},
	} {
		if runs, ok := impl.RunsOf(bitsFrom(bits)); !ok || !slices.Equal(runs, want) {
			t.Errorf("%s: %v %v", bits, runs, ok)
		}
	}
}
