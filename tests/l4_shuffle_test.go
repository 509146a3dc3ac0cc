package tests

import (
	"math"
	"math/rand"
	"slices"
	"strings"
	"testing"

	"loop.example/g00549/impl"
)

func TestShuffleLimits(t *testing.T) {
	if impl.MaxRounds != 8 || impl.MaxOrder != 9 {
		t.Error(impl.MaxRounds, impl.MaxOrder)
	}
}

func TestRoundsByHand(t *testing.T) {
	for _, c := range []struct{ key, half, want int }{
		{0, 0, 29},
		{256, 1, 31},
		{1, 255, 29},     // the half and the key's lower bits go round: x is 0
		{1, 254, 30},     // and here just not: 65054
		{255, 255, 33},   // x is 254: 64545
		{0, 255, 30},     // 65054
		{65535, 0, 46},   // x is 255: 130079 less 65521 is 64558
		{65535, 1, 29},   // x is 0
		{65535, 255, 50}, // x is 254: 129315 less 65521 is 63794
		{0, 15, 254},     // 225 and 29: just below 256
		{0, 16, 29},      // 285
		{256, 15, 13},    // 225, 15 and 29 are 269
		{0x0100, 255, 29},
		{0x0200, 255, 43}, // 65025, 510 and 29 are 65564: 43
		{65280, 255, 46},
		{65280, 0, 29},
	} {
		if got, ok := impl.RoundOf(c.key, c.half); got != c.want || !ok {
			t.Errorf("RoundOf(%d, %d): %d, %v, not %d", c.key, c.half, got, ok, c.want)
		}
	}
}

func TestRoundOfEachKeyAndHalf(t *testing.T) {
	for key := range mostBlock + 1 {
		for half := range 256 {
			if got, ok := impl.RoundOf(key, half); got != roundThere(key, half) || !ok {
				t.Fatalf("RoundOf(%d, %d): %d, %v", key, half, got, ok)
			}
		}
	}
}

func TestBlocksByHand(t *testing.T) {
	for _, c := range []struct {
		keys  []int
		block int
		want  int
	}{
		{nil, 513, 513},
		{nil, mostBlock, mostBlock},
		{[]int{256}, 513, 285},
		{[]int{0}, 0, 29},
		{[]int{0, 0}, 0, 29<<8 | (29*29+29)%256},
		{[]int{0}, 0xff00, 255 ^ 29},
		{[]int{1}, 0x00ff, 0xff1d},
		{[]int{65535}, 0xffff, 0xff00 | 255 ^ 50},
	} {
		if got, ok := impl.MixBlock(c.keys, c.block); got != c.want || !ok {
			t.Errorf("MixBlock(%v, %d): %d, %v, not %d", c.keys, c.block, got, ok, c.want)
		}
		if got, ok := impl.UnmixBlock(c.keys, c.want); got != c.block || !ok {
			t.Errorf("UnmixBlock(%v, %d): %d, %v, not %d", c.keys, c.want, got, ok, c.block)
		}
	}
}

func blocksComeBack(t *testing.T, keys []int, block int) {
	t.Helper()
	mixed, ok := impl.MixBlock(keys, block)
	if mixed != mixThere(keys, block) || !ok {
		t.Fatalf("MixBlock(%v, %d): %d, %v", keys, block, mixed, ok)
	}
	if back, ok := impl.UnmixBlock(keys, mixed); back != block || !ok {
		t.Fatalf("UnmixBlock(%v, %d): %d, %v, not %d", keys, mixed, back, ok, block)
	}
	unmixed, ok := impl.UnmixBlock(keys, block)
	if !ok || unmixed < 0 || unmixed > mostBlock {
		t.Fatalf("UnmixBlock(%v, %d): %d, %v", keys, block, unmixed, ok)
	}
	if forth, ok := impl.MixBlock(keys, unmixed); forth != block || !ok {
		t.Fatalf("MixBlock(%v, %d): %d, %v, not %d", keys, unmixed, forth, ok, block)
	}
}

func TestBlocksComeBack(t *testing.T) {
	for _, keys := range keyLists() {
		for _, block := range someBlocks() {
			blocksComeBack(t, keys, block)
		}
	}
}

func TestEachBlockComesBack(t *testing.T) {
	for _, keys := range [][]int{nil, {513}, {256, 7}, {1, 2, 3}, {65535, 0, 77, 4660, 9, 256, 255, 43981}} {
		for block := range mostBlock + 1 {
			blocksComeBack(t, keys, block)
		}
	}
}

func TestEachKeyIsARound(t *testing.T) {
	for key := range mostBlock + 1 {
		blocksComeBack(t, []int{key}, key*31%(mostBlock+1))
		blocksComeBack(t, []int{7, key}, key)
	}
}

// One key after another is as all of them; the last round is undone first.
func TestRoundsFollowEachOther(t *testing.T) {
	for _, keys := range keyLists() {
		for _, block := range someBlocks() {
			forth, back := block, block
			for i := range keys {
				forth, _ = impl.MixBlock(keys[i:i+1], forth)
				back, _ = impl.UnmixBlock(keys[len(keys)-1-i:len(keys)-i], back)
			}
			if got, ok := impl.MixBlock(keys, block); got != forth || !ok {
				t.Errorf("MixBlock(%v, %d): %d, not %d", keys, block, got, forth)
			}
			if got, ok := impl.UnmixBlock(keys, block); got != back || !ok {
				t.Errorf("UnmixBlock(%v, %d): %d, not %d", keys, block, got, back)
			}
		}
	}
}

func TestTextsByHand(t *testing.T) {
	for _, c := range []struct {
		keys  []int
		start int
		text  string
		want  string
	}{
		{nil, 0, "", ""},
		{[]int{7}, mostBlock, "", ""},
		{nil, 0, "ab", "ab"},
		{nil, 0, "abab", "ab\x00\x00"},
		{nil, 0x2020, "abab", "AB  "},
		{nil, mostBlock, "\xff\xff\x00\x01", "\x00\x00\x00\x01"},
		{[]int{256}, 0, "\x02\x01", "\x01\x1d"},
		{[]int{256}, 513, "\x00\x00", "\x01\x1d"},
		{[]int{256}, 0, "\x02\x01\x03\x1c", "\x01\x1d\x01\x1d"},
		{[]int{256}, 0x0100, "\x03\x01\x03\x1c", "\x01\x1d\x01\x1d"},
	} {
		if got, ok := impl.MixText(c.keys, c.start, c.text); got != c.want || !ok {
			t.Errorf("MixText(%v, %d, %q): %q, %v, not %q", c.keys, c.start, c.text, got, ok, c.want)
		}
		if got, ok := impl.UnmixText(c.keys, c.start, c.want); got != c.text || !ok {
			t.Errorf("UnmixText(%v, %d, %q): %q, %v, not %q", c.keys, c.start, c.want, got, ok, c.text)
		}
	}
}

func TestTextsComeBack(t *testing.T) {
	for _, keys := range keyLists() {
		for _, start := range []int{0, 1, 255, 256, 513, 0xff00, 0x8080, 43981, mostBlock - 1, mostBlock} {
			for _, s := range mixableTexts() {
				mixed, ok := impl.MixText(keys, start, s)
				if mixed != mixTextThere(keys, start, s) || !ok {
					t.Fatalf("MixText(%v, %d, %q): %q, %v", keys, start, s, mixed, ok)
				}
				if back, ok := impl.UnmixText(keys, start, mixed); back != s || !ok {
					t.Fatalf("UnmixText(%v, %d, %q): %q, %v, not %q", keys, start, mixed, back, ok, s)
				}
				unmixed, ok := impl.UnmixText(keys, start, s)
				if len(unmixed) != len(s) || !ok {
					t.Fatalf("UnmixText(%v, %d, %q): %q, %v", keys, start, s, unmixed, ok)
				}
				if forth, ok := impl.MixText(keys, start, unmixed); forth != s || !ok {
					t.Fatalf("MixText(%v, %d, %q): %q, %v, not %q", keys, start, unmixed, forth, ok, s)
				}
			}
		}
	}
}

// What is written is the next start: so two alike pairs are written alike only
// where the first one is written as the start was.
func TestAlikePairsAreWrittenUnlike(t *testing.T) {
	unlike := 0
	for _, keys := range keyLists() {
		for _, start := range someBlocks() {
			for _, pair := range someBlocks() {
				s := strings.Repeat(textOfBlock(pair), 2)
				mixed, ok := impl.MixText(keys, start, s)
				if !ok || len(mixed) != len(s) {
					t.Fatalf("MixText(%v, %d, %q): %q, %v", keys, start, s, mixed, ok)
				}
				first, second := blockAt(mixed, 0), blockAt(mixed, 1)
				if (first == second) != (first == start) {
					t.Errorf("MixText(%v, %d, %q): %q", keys, start, s, mixed)
				}
				if first != second {
					unlike++
				}
				if want, _ := impl.MixBlock(keys, pair^start); first != want {
					t.Errorf("MixText(%v, %d, %q): %q, not %d first", keys, start, s, mixed, want)
				}
				if want, _ := impl.MixBlock(keys, pair^first); second != want {
					t.Errorf("MixText(%v, %d, %q): %q, not %d second", keys, start, s, mixed, want)
				}
			}
		}
	}
	if unlike == 0 {
		t.Error("no two pairs were written unlike")
	}
}

// A text may be cut in two: the last pair written is the start of what follows.
func TestTextsGoOnFromTheirLastPair(t *testing.T) {
	keys := []int{513, 9, 43981}
	for _, s := range mixableTexts() {
		whole, ok := impl.MixText(keys, 777, s)
		if !ok || len(whole) != len(s) {
			t.Fatalf("MixText %q: %q, %v", s, whole, ok)
		}
		for cut := 2; cut <= len(s); cut += 2 {
			ahead, _ := impl.MixText(keys, 777, s[:cut])
			if ahead != whole[:cut] {
				t.Fatalf("MixText %q: %q, not %q", s[:cut], ahead, whole[:cut])
			}
			rest, _ := impl.MixText(keys, blockAt(ahead, cut/2-1), s[cut:])
			if rest != whole[cut:] {
				t.Fatalf("MixText %q: %q, not %q", s[cut:], rest, whole[cut:])
			}
		}
	}
}

func TestOrdersOf(t *testing.T) {
	for many, want := range []int{1, 1, 2, 6, 24, 120, 720, 5040, 40320, 362880} {
		if got, ok := impl.OrdersOf(many); got != want || !ok {
			t.Errorf("OrdersOf(%d): %d, %v, not %d", many, got, ok, want)
		}
	}
}

func isOrderAt(t *testing.T, order []int, n int) {
	t.Helper()
	if got, ok := impl.OrderAt(len(order), n); !slices.Equal(got, order) || !ok {
		t.Fatalf("OrderAt(%d, %d): %v, %v, not %v", len(order), n, got, ok, order)
	}
	if got, ok := impl.NumberOf(order); got != n || !ok {
		t.Fatalf("NumberOf(%v): %d, %v, not %d", order, got, ok, n)
	}
}

func TestOrdersByHand(t *testing.T) {
	isOrderAt(t, nil, 0)
	isOrderAt(t, []int{}, 0)
	isOrderAt(t, []int{0}, 0)
	isOrderAt(t, []int{0, 1}, 0)
	isOrderAt(t, []int{1, 0}, 1)
	isOrderAt(t, []int{0, 2, 1}, 1)
	isOrderAt(t, []int{1, 0, 2}, 2)
	isOrderAt(t, []int{1, 2, 0}, 3)
	isOrderAt(t, []int{2, 0, 1}, 4)
	isOrderAt(t, []int{2, 1, 0}, 5)
	isOrderAt(t, []int{0, 1, 2, 3, 4, 5, 6, 7, 8}, 0)
	isOrderAt(t, []int{0, 1, 2, 3, 4, 5, 6, 8, 7}, 1)
	isOrderAt(t, []int{1, 0, 2, 3, 4, 5, 6, 7, 8}, 40320)
	isOrderAt(t, []int{8, 7, 6, 5, 4, 3, 2, 0, 1}, 362878)
	isOrderAt(t, []int{8, 7, 6, 5, 4, 3, 2, 1, 0}, 362879)
}

func TestEachOrderComesBackFromItsNumber(t *testing.T) {
	for many := range impl.MaxOrder + 1 {
		order := risingOrder(many)
		n := 0
		for isOrderAt(t, order, n); nextOrder(order); isOrderAt(t, order, n) {
			n++
		}
		if n+1 != factorial(many) {
			t.Errorf("%d orders of %d", n+1, many)
		}
	}
}

func TestShufflesByHand(t *testing.T) {
	for _, c := range []struct {
		draws []int
		texts string
		want  string
	}{
		{nil, "", ""},
		{[]int{0}, "a", "a"},
		{[]int{5}, "a", "a"},
		{[]int{0, 0}, "ab", "ba"},
		{[]int{0, 1}, "ab", "ab"},
		{[]int{1, 2}, "ab", "ba"},
		{[]int{0, 0, 1}, "abc", "cab"},
		{[]int{0, 1, 2}, "abc", "abc"},
		{[]int{0, 3, 5}, "abc", "abc"},
		{[]int{9, 2, 4}, "abc", "cab"},
		{[]int{0, 0, 0}, "abc", "bca"},
		{[]int{0, 1, 0}, "abc", "cba"},
		{[]int{0, 0, 2}, "abc", "bac"},
		{make([]int, 9), "abcdefghi", "bcdefghia"},
		{[]int{0, 1, 2, 3, 4, 5, 6, 7, 8}, "abcdefghi", "abcdefghi"},
		{[]int{0, 1, 2, 3, 4, 5, 6, 7, 16}, "abcdefghi", "abcdefgih"},
		{[]int{math.MaxInt, math.MaxInt}, "ab", "ab"},
		{[]int{math.MaxInt, math.MaxInt - 1}, "ab", "ba"},
	} {
		got, ok := impl.ShuffleBy(c.draws, strings.Split(c.texts, ""))
		if strings.Join(got, "") != c.want || len(got) != len(c.want) || !ok {
			t.Errorf("ShuffleBy(%v, %q): %q, %v, not %q", c.draws, c.texts, got, ok, c.want)
		}
	}
}

// shuffleThere draws from the last place back by taking out and laying aside.
func shuffleThere(draws []int, l []string) []string {
	left := slices.Clone(l)
	var out []string
	for len(left) > 0 {
		k := len(left) - 1
		at := draws[k] % len(left)
		out = append([]string{left[at]}, out...)
		left[at] = left[k]
		left = left[:k]
	}
	return out
}

func isShuffled(t *testing.T, draws []int, l []string) []string {
	t.Helper()
	got, ok := impl.ShuffleBy(draws, l)
	if !slices.Equal(got, shuffleThere(draws, l)) || !ok {
		t.Fatalf("ShuffleBy(%v, %q): %q, %v", draws, l, got, ok)
	}
	if !slices.Equal(slices.Sorted(slices.Values(got)), slices.Sorted(slices.Values(l))) {
		t.Fatalf("ShuffleBy(%v, %q): %q has not all that was there", draws, l, got)
	}
	return got
}

func TestShufflesHaveAllThatWasThere(t *testing.T) {
	r := rand.New(rand.NewSource(4444))
	for many := range impl.MaxOrder + 1 {
		for _, below := range []int{1, many + 1, 100, math.MaxInt} {
			for range 200 {
				var draws []int
				var texts []string
				for range many {
					draws = append(draws, r.Intn(below))
					texts = append(texts, []string{"", "a", "b", "a longer one", "\xff\x00", "é"}[r.Intn(6)])
				}
				isShuffled(t, draws, placesOf(many))
				isShuffled(t, draws, texts)
			}
		}
	}
	isShuffled(t, []int{1, 0, 0}, []string{strings.Repeat("x", 100000), "", strings.Repeat("y", 100000)})
}

// Draws that are at most their places make each order in just one way, and
// greater ones make what their rest does.
func TestDrawsMakeEachOrderOnce(t *testing.T) {
	for many := range 7 {
		seen := map[string]bool{}
		for n := range factorial(many) {
			var draws, greater []int
			rest := n
			for k := range many {
				draws = append(draws, rest%(k+1))
				greater = append(greater, rest%(k+1)+(k+1)*(n+1))
				rest /= k + 1
			}
			got := isShuffled(t, draws, placesOf(many))
			seen[strings.Join(got, "")] = true
			if other := isShuffled(t, greater, placesOf(many)); !slices.Equal(got, other) {
				t.Errorf("%v: %q, %v: %q", draws, got, greater, other)
			}
		}
		if len(seen) != factorial(many) {
			t.Errorf("%d orders of %d", len(seen), many)
		}
	}
}
