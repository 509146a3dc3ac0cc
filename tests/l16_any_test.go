package tests

import (
	"math/rand"
	"slices"
	"testing"

	"loop.example/g00549/impl"
)

// windowed is what a function of chapter 16 tells, whichever it is.
type windowed struct {
	w    impl.Window
	nums []int
	n    int
	ok   bool
}

// windowCall is one call of a function of chapter 16.
type windowCall struct {
	name string
	a    impl.Window
	b    impl.Window
	n    int
	l    []int
}

func (c windowCall) run() windowed {
	var out windowed
	switch c.name {
	case "GoodWindow":
		out.ok = impl.GoodWindow(c.a)
	case "TakeNumber":
		out.w, out.n, out.ok = impl.TakeNumber(c.a, c.n)
	case "PlayNumbers":
		out.nums, out.w, out.ok = impl.PlayNumbers(c.l)
	case "PlayAll":
		out.nums, out.ok = impl.PlayAll(c.l)
	case "SeenIn":
		out.nums, out.ok = impl.SeenIn(c.a)
	case "LowestOf":
		out.n, out.ok = impl.LowestOf(c.a)
	case "JoinWindows":
		out.w, out.ok = impl.JoinWindows(c.a, c.b)
	}
	return out
}

func (c windowCall) isLong() bool {
	return len(c.l) > 100
}

func (x windowed) isAlike(y windowed) bool {
	return x.w == y.w && slices.Equal(x.nums, y.nums) && x.n == y.n && x.ok == y.ok
}

func isRefusedWindow(t *testing.T, c windowCall) {
	t.Helper()
	if got := c.run(); !got.isAlike(windowed{}) {
		if c.isLong() {
			c = windowCall{name: c.name + " of very many"}
		}
		t.Fatalf("%+v: %+v", c, got)
	}
}

func TestWrongWindowsGetTheZeroAnswer(t *testing.T) {
	for _, w := range wrongWindows() {
		for _, name := range []string{"GoodWindow", "SeenIn", "LowestOf"} {
			isRefusedWindow(t, windowCall{name: name, a: w})
		}
		for _, n := range []int{0, 1, 2, 17, 40, impl.MaxTop - 1, impl.MaxTop, impl.MaxTop + 1, w.Top - 1, w.Top, w.Top + 1} {
			isRefusedWindow(t, windowCall{name: "TakeNumber", a: w, n: n})
		}
		for _, other := range []impl.Window{{}, {Top: 1, Bits: 1}, fullWindow(40), fullWindow(impl.MaxTop), w} {
			isRefusedWindow(t, windowCall{name: "JoinWindows", a: w, b: other})
			isRefusedWindow(t, windowCall{name: "JoinWindows", a: other, b: w})
		}
	}
}

func TestWrongNumbersAreNotTaken(t *testing.T) {
	for _, w := range someWindows() {
		for _, n := range wrongNumbersToTake() {
			isRefusedWindow(t, windowCall{name: "TakeNumber", a: w, n: n})
		}
	}
}

func TestWrongNumbersAreNotPlayed(t *testing.T) {
	for _, l := range wrongPlayLists() {
		isRefusedWindow(t, windowCall{name: "PlayNumbers", l: l})
		isRefusedWindow(t, windowCall{name: "PlayAll", l: l})
	}
}

// The most are played, one more is not.
func TestHowManyNumbersArePlayed(t *testing.T) {
	for many := range 3 * mostTaken {
		l := risingOrder(many + 1)[1:]
		if many <= mostTaken {
			isPlayedAsSaid(t, l)
			isPlayedAsSaid(t, slices.Repeat([]int{impl.MaxTop}, many))
		} else {
			isRefusedWindow(t, windowCall{name: "PlayNumbers", l: l})
			isRefusedWindow(t, windowCall{name: "PlayAll", l: l})
		}
	}
}

// Each end of the numbers at the first and at the last place.
func TestEndsOfNumbersArePlayed(t *testing.T) {
	for _, n := range []int{-1, 0, 1, 2, impl.MaxTop - 1, impl.MaxTop, impl.MaxTop + 1} {
		for many := 1; many <= mostTaken; many++ {
			for _, at := range []int{0, many - 1} {
				l := slices.Repeat([]int{30}, many)
				l[at] = n
				if isPlayableThere(n) {
					isPlayedAsSaid(t, l)
				} else {
					isRefusedWindow(t, windowCall{name: "PlayNumbers", l: l})
					isRefusedWindow(t, windowCall{name: "PlayAll", l: l})
				}
			}
		}
	}
}

func TestEachNumberIsTakenOrNot(t *testing.T) {
	for _, w := range []impl.Window{{}, {Top: 1, Bits: 1}, fullWindow(5000), fullWindow(impl.MaxTop)} {
		for n := -70; n <= impl.MaxTop+70; n++ {
			if isPlayableThere(n) {
				isTakenAsSaid(t, w, n)
			} else {
				isRefusedWindow(t, windowCall{name: "TakeNumber", a: w, n: n})
			}
		}
	}
}

func TestEachTopIsATopOrNot(t *testing.T) {
	for top := -70; top <= impl.MaxTop+70; top++ {
		w := impl.Window{Top: top, Bits: 1}
		isWindow(t, w, isPlayableThere(top))
		if isPlayableThere(top) {
			areSeen(t, w, top)
			isLowest(t, w, max(top-15, 1))
		} else {
			isRefusedWindow(t, windowCall{name: "SeenIn", a: w})
			isRefusedWindow(t, windowCall{name: "LowestOf", a: w})
		}
	}
}

// anyWindowCalls are calls of each function, good ones and others.
func anyWindowCalls() []windowCall {
	r := rand.New(rand.NewSource(1611))
	wrong := slices.DeleteFunc(wrongWindows(), func(impl.Window) bool { return r.Intn(10) > 0 })
	windows := append(someWindows(), wrong...)
	var out []windowCall
	for _, w := range windows {
		other := windows[r.Intn(len(windows))]
		out = append(out, windowCall{name: "GoodWindow", a: w}, windowCall{name: "SeenIn", a: w}, windowCall{name: "LowestOf", a: w}, windowCall{name: "JoinWindows", a: w, b: other})
		for _, n := range []int{w.Top - impl.Wide, w.Top - r.Intn(impl.Wide), w.Top, w.Top + 1, w.Top + r.Intn(40)} {
			out = append(out, windowCall{name: "TakeNumber", a: w, n: n})
		}
	}
	for _, l := range slices.Concat([][]int{nil, {}, {1}}, drawnPlays(1), wrongPlayLists()) {
		out = append(out, windowCall{name: "PlayNumbers", l: l}, windowCall{name: "PlayAll", l: l})
	}
	return slices.DeleteFunc(out, windowCall.isLong)
}

func TestWindowsNeitherWriteNorShare(t *testing.T) {
	for _, c := range anyWindowCalls() {
		given := c
		var held []int
		given.l, held = withRoom(c.l, 3)
		was := slices.Clone(held)
		got := given.run()
		if !slices.Equal(held, was) {
			t.Fatalf("%+v writes into an argument", c)
		}
		if !got.isAlike(c.run()) {
			t.Fatalf("%+v hangs on what lies behind the list", c)
		}
		if !isBehindZero(got.nums) {
			t.Fatalf("%+v hands out what lies behind", c)
		}
		scribbleOver(got.nums, func(n int) int { return n + 77 })
		if !slices.Equal(held, was) {
			t.Fatalf("%+v shares memory with an argument", c)
		}
		if !given.run().isAlike(c.run()) {
			t.Fatalf("%+v is another one the second time", c)
		}
	}
}

func TestNoListOfNumbersIsTheNilOne(t *testing.T) {
	for _, c := range anyWindowCalls() {
		empty := c
		empty.l = append([]int{}, c.l...)
		if !empty.run().isAlike(c.run()) {
			t.Fatalf("%+v", c)
		}
	}
}

func TestWindowsAnswerTheSameEachTime(t *testing.T) {
	for _, c := range anyWindowCalls() {
		want := c.run()
		for range 3 {
			if got := c.run(); !got.isAlike(want) {
				t.Fatalf("%+v: %+v, then %+v", c, want, got)
			}
		}
	}
}
