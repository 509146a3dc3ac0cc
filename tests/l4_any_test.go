package tests

import (
	"math"
	"slices"
	"strings"
	"testing"

	"loop.example/g00549/impl"
)

// shuffled is what a function of chapter 4 tells, whichever it is.
type shuffled struct {
	n     int
	text  string
	order []int
	texts []string
	ok    bool
}

// shuffleCall is one call of a function of chapter 4.
type shuffleCall struct {
	name  string
	nums  []int
	texts []string
	a     int
	b     int
	s     string
}

func (c shuffleCall) run() shuffled {
	var out shuffled
	switch c.name {
	case "RoundOf":
		out.n, out.ok = impl.RoundOf(c.a, c.b)
	case "MixBlock":
		out.n, out.ok = impl.MixBlock(c.nums, c.a)
	case "UnmixBlock":
		out.n, out.ok = impl.UnmixBlock(c.nums, c.a)
	case "MixText":
		out.text, out.ok = impl.MixText(c.nums, c.a, c.s)
	case "UnmixText":
		out.text, out.ok = impl.UnmixText(c.nums, c.a, c.s)
	case "OrderAt":
		out.order, out.ok = impl.OrderAt(c.a, c.b)
	case "NumberOf":
		out.n, out.ok = impl.NumberOf(c.nums)
	case "ShuffleBy":
		out.texts, out.ok = impl.ShuffleBy(c.nums, c.texts)
	case "OrdersOf":
		out.n, out.ok = impl.OrdersOf(c.a)
	}
	return out
}

func (x shuffled) isAlike(y shuffled) bool {
	return x.n == y.n && x.text == y.text && slices.Equal(x.order, y.order) && slices.Equal(x.texts, y.texts) && x.ok == y.ok
}

func isRefusedShuffle(t *testing.T, c shuffleCall) {
	t.Helper()
	if got := c.run(); !got.isAlike(shuffled{}) {
		t.Errorf("%+v: %+v", c, got)
	}
}

// ofBlocks are calls with keys and a block of each function that takes them.
func ofBlocks(keys []int, block int, s string) []shuffleCall {
	return []shuffleCall{
		{name: "MixBlock", nums: keys, a: block},
		{name: "UnmixBlock", nums: keys, a: block},
		{name: "MixText", nums: keys, a: block, s: s},
		{name: "UnmixText", nums: keys, a: block, s: s},
	}
}

func TestWrongRoundsGetTheZeroAnswer(t *testing.T) {
	for _, key := range wrongBlocks() {
		for _, half := range append(wrongHalves(), 0, 1, 128, 255) {
			isRefusedShuffle(t, shuffleCall{name: "RoundOf", a: key, b: half})
		}
	}
	for _, half := range wrongHalves() {
		for _, key := range []int{0, 1, 255, 256, 43981, mostBlock} {
			isRefusedShuffle(t, shuffleCall{name: "RoundOf", a: key, b: half})
		}
	}
}

func TestWrongKeysGetTheZeroAnswer(t *testing.T) {
	for _, keys := range wrongKeyLists() {
		for _, block := range append(wrongBlocks(), 0, 1, 513, mostBlock) {
			for _, s := range []string{"", "ab", "some text!", "odd"} {
				for _, c := range ofBlocks(keys, block, s) {
					isRefusedShuffle(t, c)
				}
			}
		}
	}
}

func TestWrongBlocksGetTheZeroAnswer(t *testing.T) {
	for _, keys := range keyLists() {
		for _, block := range wrongBlocks() {
			for _, s := range []string{"", "ab", "some text!", strings.Repeat("x", mostMixed)} {
				for _, c := range ofBlocks(keys, block, s) {
					isRefusedShuffle(t, c)
				}
			}
		}
	}
}

func TestTextsThatAreNoPairsGetTheZeroAnswer(t *testing.T) {
	for _, keys := range keyLists() {
		for _, s := range wrongMixed() {
			for _, start := range []int{0, 513, mostBlock} {
				isRefusedShuffle(t, shuffleCall{name: "MixText", nums: keys, a: start, s: s})
				isRefusedShuffle(t, shuffleCall{name: "UnmixText", nums: keys, a: start, s: s})
			}
		}
	}
}

func TestWrongManyGetTheZeroAnswer(t *testing.T) {
	for _, many := range []int{math.MinInt, math.MinInt + 1, -impl.MaxOrder, -2, -1, impl.MaxOrder + 1, 20, 21, 64, 1 << 32, math.MaxInt - 1, math.MaxInt} {
		isRefusedShuffle(t, shuffleCall{name: "OrdersOf", a: many})
		for _, n := range []int{math.MinInt, -1, 0, 1, 362879, math.MaxInt} {
			isRefusedShuffle(t, shuffleCall{name: "OrderAt", a: many, b: n})
		}
	}
}

func TestWrongNumbersOfOrdersGetTheZeroAnswer(t *testing.T) {
	for many := range impl.MaxOrder + 1 {
		orders := factorial(many)
		for _, n := range []int{math.MinInt, math.MinInt + 1, -orders, -1, orders, orders + 1, 2 * orders, 10 * orders, 1 << 32, math.MaxInt - 1, math.MaxInt} {
			isRefusedShuffle(t, shuffleCall{name: "OrderAt", a: many, b: n})
		}
	}
}

func TestWhatIsNoOrder(t *testing.T) {
	for _, order := range wrongOrders() {
		isRefusedShuffle(t, shuffleCall{name: "NumberOf", nums: order})
	}
}

// Of all lists of three numbers about 0..2 just the six orders have numbers.
func TestFewListsAreOrders(t *testing.T) {
	orders := 0
	for n := range 6 * 6 * 6 {
		order := []int{n%6 - 2, n/6%6 - 2, n/36 - 2}
		if _, ok := impl.NumberOf(order); ok {
			orders++
			if !slices.Equal(slices.Sorted(slices.Values(order)), []int{0, 1, 2}) {
				t.Errorf("NumberOf(%v) has a number", order)
			}
		} else {
			isRefusedShuffle(t, shuffleCall{name: "NumberOf", nums: order})
		}
	}
	if orders != 6 {
		t.Error(orders)
	}
}

func TestFewerOrMoreDrawsThanTexts(t *testing.T) {
	for draws := range 15 {
		for texts := range 15 {
			if draws != texts || texts > impl.MaxOrder {
				isRefusedShuffle(t, shuffleCall{name: "ShuffleBy", nums: make([]int, draws), texts: placesOf(texts)})
			}
		}
	}
	isRefusedShuffle(t, shuffleCall{name: "ShuffleBy", nums: make([]int, 10000), texts: make([]string, 10000)})
}

func TestDrawsBelowNought(t *testing.T) {
	for _, wrong := range []int{math.MinInt, math.MinInt + 1, -10, -9, -2, -1} {
		for many := range impl.MaxOrder + 1 {
			for at := range many {
				draws := slices.Repeat([]int{1}, many)
				draws[at] = wrong
				isRefusedShuffle(t, shuffleCall{name: "ShuffleBy", nums: draws, texts: placesOf(many)})
			}
		}
	}
}

// anyShuffleCalls are calls of each function that takes lists, good ones and
// others, and of OrderAt.
func anyShuffleCalls() []shuffleCall {
	var out []shuffleCall
	for _, keys := range append(wrongKeyLists()[:40], keyLists()...) {
		for _, block := range []int{-1, 0, 513, mostBlock, mostBlock + 1} {
			for _, s := range []string{"", "ab", "odd", "some text!", strings.Repeat("é", 20), strings.Repeat("x", 42)} {
				out = append(out, ofBlocks(keys, block, s)...)
			}
		}
	}
	for many := range impl.MaxOrder + 3 {
		for _, n := range []int{-1, 0, 1, 5, 23, 719, 40320, 362879, 362880} {
			order, _ := impl.OrderAt(many, n)
			out = append(out, shuffleCall{name: "OrderAt", a: many, b: n}, shuffleCall{name: "NumberOf", nums: order})
			out = append(out, shuffleCall{name: "ShuffleBy", nums: order, texts: placesOf(many)})
		}
		out = append(out, shuffleCall{name: "ShuffleBy", nums: slices.Repeat([]int{7}, many), texts: placesOf(many)})
		out = append(out, shuffleCall{name: "ShuffleBy", nums: risingOrder(many), texts: placesOf(many)})
		out = append(out, shuffleCall{name: "ShuffleBy", nums: risingOrder(many), texts: placesOf(many + 1)})
	}
	for _, order := range wrongOrders() {
		out = append(out, shuffleCall{name: "NumberOf", nums: order}, shuffleCall{name: "ShuffleBy", nums: order, texts: placesOf(len(order) % 12)})
	}
	return out
}

func TestShufflesNeitherWriteNorShare(t *testing.T) {
	for _, c := range anyShuffleCalls() {
		given := c
		var nums []int
		var texts []string
		given.nums, nums = withRoom(c.nums, 7)
		given.texts, texts = withRoom(c.texts, "behind")
		wereNums, wereTexts := slices.Clone(nums), slices.Clone(texts)
		isKept := func() bool {
			return slices.Equal(nums, wereNums) && slices.Equal(texts, wereTexts)
		}
		got := given.run()
		if !isKept() {
			t.Fatalf("%+v writes into an argument", c)
		}
		if !got.isAlike(c.run()) {
			t.Errorf("%+v hangs on what lies behind the lists", c)
		}
		if slices.Max(append(slices.Clone(got.order[len(got.order):cap(got.order)]), 0)) != 0 || strings.Join(got.texts[len(got.texts):cap(got.texts)], "") != "" {
			t.Errorf("%+v hands out what lies behind", c)
		}
		scribbleOver(got.order, func(n int) int { return n + 77 })
		scribbleOver(got.texts, func(s string) string { return s + "!" })
		if !isKept() {
			t.Fatalf("%+v shares memory with an argument", c)
		}
		if !given.run().isAlike(c.run()) {
			t.Errorf("%+v is another one the second time", c)
		}
	}
}

func TestNoKeysAndNoTextsAreTheNilOnes(t *testing.T) {
	for _, c := range anyShuffleCalls() {
		empty := c
		if len(c.nums) == 0 {
			empty.nums = []int{}
		}
		if len(c.texts) == 0 {
			empty.texts = []string{}
		}
		if !empty.run().isAlike(c.run()) {
			t.Errorf("%+v", c)
		}
	}
}
