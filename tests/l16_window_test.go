package tests

import (
	"math/rand"
	"slices"
	"testing"

	"loop.example/g00549/impl"
)

func isWindow(t *testing.T, w impl.Window, want bool) {
	t.Helper()
	if got := impl.GoodWindow(w); got != want {
		t.Fatalf("GoodWindow(%+v): %v", w, got)
	}
}

func isTaken(t *testing.T, w impl.Window, n int, want impl.Window, code int) {
	t.Helper()
	if got, k, ok := impl.TakeNumber(w, n); !ok || k != code || got != want {
		t.Fatalf("TakeNumber(%+v, %d): %+v, %d, %v, not %+v, %d", w, n, got, k, ok, want, code)
	}
}

func isTakenAsSaid(t *testing.T, w impl.Window, n int) {
	t.Helper()
	want, code := takenThere(w, n)
	isTaken(t, w, n, want, code)
	isWindow(t, want, true)
}

func arePlayed(t *testing.T, l []int, w impl.Window, codes ...int) {
	t.Helper()
	if got, end, ok := impl.PlayNumbers(l); !ok || end != w || !slices.Equal(got, codes) {
		t.Fatalf("PlayNumbers(%v): %v, %+v, %v, not %v, %+v", l, got, end, ok, codes, w)
	}
}

func areAllPlayed(t *testing.T, l []int, codes ...int) {
	t.Helper()
	if got, ok := impl.PlayAll(l); !ok || !slices.Equal(got, codes) {
		t.Fatalf("PlayAll(%v): %v, %v, not %v", l, got, ok, codes)
	}
}

func areSeen(t *testing.T, w impl.Window, want ...int) {
	t.Helper()
	if got, ok := impl.SeenIn(w); !ok || !slices.Equal(got, want) {
		t.Fatalf("SeenIn(%+v): %v, %v, not %v", w, got, ok, want)
	}
}

func isLowest(t *testing.T, w impl.Window, want int) {
	t.Helper()
	if got, ok := impl.LowestOf(w); !ok || got != want {
		t.Fatalf("LowestOf(%+v): %d, %v, not %d", w, got, ok, want)
	}
}

// areTogether holds both orders.
func areTogether(t *testing.T, a impl.Window, b impl.Window, want impl.Window) {
	t.Helper()
	if got, ok := impl.JoinWindows(a, b); !ok || got != want {
		t.Fatalf("JoinWindows(%+v, %+v): %+v, %v, not %+v", a, b, got, ok, want)
	}
	if got, ok := impl.JoinWindows(b, a); !ok || got != want {
		t.Fatalf("JoinWindows(%+v, %+v): %+v, %v, not %+v", b, a, got, ok, want)
	}
}

func TestWindowLimits(t *testing.T) {
	if impl.Wide != 16 || impl.MaxTop != 100000 {
		t.Error(impl.Wide, impl.MaxTop)
	}
}

func TestWindowsByHand(t *testing.T) {
	isWindow(t, impl.Window{}, true)
	isWindow(t, impl.Window{Top: 1, Bits: 1}, true)
	isWindow(t, impl.Window{Top: impl.MaxTop, Bits: 1}, true)
	isWindow(t, impl.Window{Top: impl.MaxTop, Bits: 65535}, true)
	isWindow(t, impl.Window{Top: 16, Bits: 65535}, true)
	isWindow(t, impl.Window{Top: 15, Bits: 32767}, true)
	isWindow(t, impl.Window{Top: 2, Bits: 3}, true)
	isWindow(t, impl.Window{Top: -1}, false)
	isWindow(t, impl.Window{Top: -1, Bits: 1}, false)
	isWindow(t, impl.Window{Top: impl.MaxTop + 1, Bits: 1}, false)
	isWindow(t, impl.Window{Top: 7, Bits: -1}, false)
	isWindow(t, impl.Window{Bits: -1}, false)
	isWindow(t, impl.Window{Bits: 1}, false)
	isWindow(t, impl.Window{Bits: 2}, false)
	isWindow(t, impl.Window{Top: 1}, false)
	isWindow(t, impl.Window{Top: 1, Bits: 2}, false)
	isWindow(t, impl.Window{Top: 1, Bits: 3}, false)
	isWindow(t, impl.Window{Top: 20, Bits: 65534}, false)
	isWindow(t, impl.Window{Top: 20, Bits: 65536}, false)
	isWindow(t, impl.Window{Top: 20, Bits: 65537}, false)
	isWindow(t, impl.Window{Top: 15, Bits: 65535}, false)
	isWindow(t, impl.Window{Top: 15, Bits: 32769}, false)
	isWindow(t, impl.Window{Top: 2, Bits: 7}, false)
}

// Bit k says something of a number that is Top less k: of 1 it may, of 0 not.
func TestEachBitNeedsItsNumber(t *testing.T) {
	for k := range impl.Wide {
		isWindow(t, impl.Window{Top: k, Bits: 1<<k | 1}, false)
		isWindow(t, impl.Window{Top: k + 1, Bits: 1<<k | 1}, true)
		isWindow(t, impl.Window{Top: k + 1, Bits: 1 << k}, k == 0)
		isWindow(t, impl.Window{Top: k + 2, Bits: 1<<k | 1}, true)
	}
}

func TestGoodWindowsAreAsSaid(t *testing.T) {
	for _, top := range append(topsToTry(), -1, 7, impl.MaxTop+1) {
		for bits := -2; bits <= mostWindowBits+2; bits++ {
			w := impl.Window{Top: top, Bits: bits}
			isWindow(t, w, isWindowThere(w))
		}
	}
	for _, w := range someWindows() {
		isWindow(t, w, true)
	}
	for _, w := range wrongWindows() {
		isWindow(t, w, false)
	}
}

func TestTakesByHand(t *testing.T) {
	isTaken(t, impl.Window{}, 1, impl.Window{Top: 1, Bits: 1}, 0)
	isTaken(t, impl.Window{}, 9, impl.Window{Top: 9, Bits: 1}, 0)
	isTaken(t, impl.Window{}, impl.MaxTop, impl.Window{Top: impl.MaxTop, Bits: 1}, 0)
	w := impl.Window{Top: 20, Bits: 5}
	isTaken(t, w, 21, impl.Window{Top: 21, Bits: 11}, 0)
	isTaken(t, w, 33, impl.Window{Top: 33, Bits: 40961}, 0)
	isTaken(t, w, 34, impl.Window{Top: 34, Bits: 16385}, 0)
	isTaken(t, w, 35, impl.Window{Top: 35, Bits: 32769}, 0)
	isTaken(t, w, 36, impl.Window{Top: 36, Bits: 1}, 0)
	isTaken(t, w, 37, impl.Window{Top: 37, Bits: 1}, 0)
	isTaken(t, w, 84, impl.Window{Top: 84, Bits: 1}, 0)
	isTaken(t, w, impl.MaxTop, impl.Window{Top: impl.MaxTop, Bits: 1}, 0)
	isTaken(t, w, 20, w, 1)
	isTaken(t, w, 19, impl.Window{Top: 20, Bits: 7}, 0)
	isTaken(t, w, 18, w, 1)
	isTaken(t, w, 6, impl.Window{Top: 20, Bits: 16389}, 0)
	isTaken(t, w, 5, impl.Window{Top: 20, Bits: 32773}, 0)
	isTaken(t, w, 4, w, 2)
	isTaken(t, w, 3, w, 2)
	isTaken(t, w, 1, w, 2)
	isTaken(t, impl.Window{Top: 16, Bits: 1}, 1, impl.Window{Top: 16, Bits: 32769}, 0)
	isTaken(t, impl.Window{Top: 17, Bits: 1}, 1, impl.Window{Top: 17, Bits: 1}, 2)
	isTaken(t, fullWindow(impl.MaxTop), impl.MaxTop, fullWindow(impl.MaxTop), 1)
	isTaken(t, fullWindow(impl.MaxTop), 1, fullWindow(impl.MaxTop), 2)
	isTaken(t, impl.Window{Top: impl.MaxTop, Bits: 1}, impl.MaxTop-15, impl.Window{Top: impl.MaxTop, Bits: 32769}, 0)
}

// Each number around a window, up to three windows away, and the ends.
func TestTakesAreAsSaid(t *testing.T) {
	for _, w := range someWindows() {
		for n := w.Top - 3*impl.Wide; n <= w.Top+3*impl.Wide; n++ {
			if isPlayableThere(n) {
				isTakenAsSaid(t, w, n)
			}
		}
		for _, n := range topsToTry()[1:] {
			isTakenAsSaid(t, w, n)
		}
	}
}

func TestTakesOfAllWindows(t *testing.T) {
	for _, top := range []int{1, 3, 8, impl.Wide, 77} {
		for bits := 1; bits <= fullWindow(top).Bits; bits += 2 {
			w := impl.Window{Top: top, Bits: bits}
			for _, n := range []int{top - 16, top - 15, top - 2, top - 1, top, top + 1, top + 2, top + 14, top + 15, top + 16} {
				if n >= 1 {
					isTakenAsSaid(t, w, n)
				}
			}
		}
	}
}

// From a full window up, one bit less is left for each number.
func TestBitsMoveOut(t *testing.T) {
	for by := 1; by <= 3*impl.Wide; by++ {
		got, code, ok := impl.TakeNumber(fullWindow(500), 500+by)
		left := 1 + max(impl.Wide-by, 0)
		if seen := seenThere(got); code != 0 || !ok || len(seen) != left || got.Top != 500+by {
			t.Fatalf("by %d: %+v, %d, %v", by, got, code, ok)
		}
	}
}

func TestNumbersPlayedByHand(t *testing.T) {
	arePlayed(t, nil, impl.Window{})
	arePlayed(t, []int{}, impl.Window{})
	arePlayed(t, []int{1}, impl.Window{Top: 1, Bits: 1}, 0)
	arePlayed(t, []int{1, 1, 1}, impl.Window{Top: 1, Bits: 1}, 0, 1, 1)
	arePlayed(t, []int{1, 2, 3}, impl.Window{Top: 3, Bits: 7}, 0, 0, 0)
	arePlayed(t, []int{3, 2, 1}, impl.Window{Top: 3, Bits: 7}, 0, 0, 0)
	arePlayed(t, []int{17, 1, 2, 2, 1}, impl.Window{Top: 17, Bits: 32769}, 0, 2, 0, 1, 2)
	arePlayed(t, []int{1, 17, 1, 2}, impl.Window{Top: 17, Bits: 32769}, 0, 0, 2, 0)
	arePlayed(t, []int{2, 17, 2, 18, 2}, impl.Window{Top: 18, Bits: 3}, 0, 0, 1, 0, 2)
	arePlayed(t, []int{impl.MaxTop, 1, impl.MaxTop - 15, impl.MaxTop - 16, impl.MaxTop}, impl.Window{Top: impl.MaxTop, Bits: 32769}, 0, 2, 0, 2, 1)
}

func TestAllPlayedByHand(t *testing.T) {
	areAllPlayed(t, nil)
	areAllPlayed(t, []int{})
	areAllPlayed(t, []int{1}, 0)
	areAllPlayed(t, []int{1, 1, 1}, 0, 1, 1)
	areAllPlayed(t, []int{3, 2, 1}, 0, 0, 0)
	areAllPlayed(t, []int{17, 1, 2, 2, 1, 1}, 0, 2, 0, 1, 2, 2)
	areAllPlayed(t, []int{1, 17, 1, 2}, 0, 0, 1, 0)
	areAllPlayed(t, []int{2, 17, 2, 18, 2, 3}, 0, 0, 1, 0, 1, 0)
	areAllPlayed(t, []int{1, 2, 3, impl.MaxTop, 3, 2, 1, 4, 4}, 0, 0, 0, 0, 1, 1, 1, 2, 2)
	// what was refused is no greatest one, and was not taken
	areAllPlayed(t, []int{100, 84, 85, 84, 85, 116, 100, 99}, 0, 2, 0, 2, 1, 0, 1, 2)
}

// keepsItsPromise is promise 16, and all that is said of plays.
func keepsItsPromise(t *testing.T, l []int) {
	t.Helper()
	codes, w, ok := impl.PlayNumbers(l)
	all, okAll := impl.PlayAll(l)
	if !ok || !okAll || len(codes) != len(l) || len(all) != len(l) {
		t.Fatalf("%v: %v, %v, %v, %v", l, codes, ok, all, okAll)
	}
	var at impl.Window
	var taken []int
	for i, n := range l {
		next, code, is := impl.TakeNumber(at, n)
		if !is || codes[i] != code {
			t.Fatalf("%v: %v, but TakeNumber(%+v, %d): %d, %v", l, codes, at, n, code, is)
		}
		if (codes[i] == 0) != (all[i] == 0) || all[i] == 2 && codes[i] == 1 {
			t.Fatalf("%v: %v, but who remembers all: %v", l, codes, all)
		}
		if code == 0 && slices.Contains(taken, n) {
			t.Fatalf("%v: %v: %d is taken twice", l, codes, n)
		}
		if code == 0 {
			taken = append(taken, n)
		}
		at = next
	}
	if w != at || !impl.GoodWindow(w) {
		t.Fatalf("%v: %+v, not %+v", l, w, at)
	}
	areSeen(t, w, withinThere(taken)...)
}

// withinThere are those that are less than Wide below the greatest one, rising.
func withinThere(taken []int) []int {
	out := slices.Sorted(slices.Values(taken))
	return slices.DeleteFunc(out, func(n int) bool { return n <= slices.Max(taken)-impl.Wide })
}

func isPlayedAsSaid(t *testing.T, l []int) {
	t.Helper()
	keepsItsPromise(t, l)
	codes, w := playedNumbersThere(l)
	arePlayed(t, l, w, codes...)
	areAllPlayed(t, l, playedAllThere(l)...)
}

// Promise 16: no number is taken twice, none is refused that one who remembers
// all would take. Of 1 to 20 all lists of up to four numbers, ..
func TestNumbersAreTakenOnceAtMost(t *testing.T) {
	upTo20 := risingOrder(21)[1:]
	for many := range 5 {
		for l := range eachListOf(upTo20, many) {
			isPlayedAsSaid(t, l)
		}
	}
}

// .. and of those that are just within a window of each other, and just not, all
// lists of five and of six.
func TestNumbersAtTheEndsOfAWindowAreTakenOnceAtMost(t *testing.T) {
	for l := range eachListOf([]int{1, 2, 3, 4, 5, 10, 17, 18, 19, 20}, 5) {
		isPlayedAsSaid(t, l)
	}
	for _, ends := range [][]int{{1, 2, 4, 16, 17, 20}, {3, 4, 5, 18, 19, 20}} {
		for l := range eachListOf(ends, 6) {
			isPlayedAsSaid(t, l)
		}
	}
}

func TestDrawnNumbersAreTakenOnceAtMost(t *testing.T) {
	for _, l := range drawnPlays(30) {
		isPlayedAsSaid(t, l)
	}
}

// The same numbers in another order: those within one window are all taken.
func TestNumbersOfOneWindowAreTakenInAnyOrder(t *testing.T) {
	r := rand.New(rand.NewSource(161))
	for _, top := range topsToTry() {
		full := seenThere(fullWindow(top))
		for range 50 {
			l := inAnotherOrder(r, full)
			arePlayed(t, l, fullWindow(top), make([]int, len(l))...)
			areAllPlayed(t, l, make([]int, len(l))...)
			isPlayedAsSaid(t, someTwice(r, l, mostTaken))
		}
	}
}

// What comes behind does not change what was told before.
func TestCodesAreToldFromTheFront(t *testing.T) {
	for _, l := range drawnPlays(1) {
		codes, _, _ := impl.PlayNumbers(l)
		all, _ := impl.PlayAll(l)
		for many := range l {
			_, w := playedNumbersThere(l[:many])
			arePlayed(t, l[:many], w, codes[:many]...)
			areAllPlayed(t, l[:many], all[:many]...)
		}
	}
}

func TestSeenByHand(t *testing.T) {
	areSeen(t, impl.Window{})
	areSeen(t, impl.Window{Top: 1, Bits: 1}, 1)
	areSeen(t, impl.Window{Top: 2, Bits: 3}, 1, 2)
	areSeen(t, impl.Window{Top: 40, Bits: 5}, 38, 40)
	areSeen(t, impl.Window{Top: 15, Bits: 16385}, 1, 15)
	areSeen(t, impl.Window{Top: 16, Bits: 32769}, 1, 16)
	areSeen(t, impl.Window{Top: 17, Bits: 32769}, 2, 17)
	areSeen(t, impl.Window{Top: 16, Bits: 65535}, 1, 2, 3, 4, 5, 6, 7, 8, 9, 10, 11, 12, 13, 14, 15, 16)
	areSeen(t, impl.Window{Top: impl.MaxTop, Bits: 1}, impl.MaxTop)
	areSeen(t, impl.Window{Top: impl.MaxTop, Bits: 49153}, impl.MaxTop-15, impl.MaxTop-14, impl.MaxTop)
}

func TestSeenIsAsSaid(t *testing.T) {
	for _, w := range someWindows() {
		areSeen(t, w, seenThere(w)...)
	}
	for _, top := range []int{1, 9, impl.Wide, impl.MaxTop} {
		for bits := 1; bits <= fullWindow(top).Bits; bits += 2 {
			w := impl.Window{Top: top, Bits: bits}
			areSeen(t, w, seenThere(w)...)
		}
	}
}

func TestLowestByHand(t *testing.T) {
	isLowest(t, impl.Window{}, 1)
	isLowest(t, impl.Window{Top: 1, Bits: 1}, 1)
	isLowest(t, impl.Window{Top: 15, Bits: 1}, 1)
	isLowest(t, impl.Window{Top: 16, Bits: 1}, 1)
	isLowest(t, impl.Window{Top: 17, Bits: 1}, 2)
	isLowest(t, impl.Window{Top: 18, Bits: 3}, 3)
	isLowest(t, impl.Window{Top: 40, Bits: 65535}, 25)
	isLowest(t, impl.Window{Top: impl.MaxTop, Bits: 1}, impl.MaxTop-15)
}

// The lowest one is not too late, the one below it is.
func TestLowestIsTheLastThatIsNotTooLate(t *testing.T) {
	for _, w := range someWindows() {
		isLowest(t, w, lowestThere(w))
		lowest, _ := impl.LowestOf(w)
		if _, code, ok := impl.TakeNumber(w, lowest); code == 2 || !ok {
			t.Fatalf("TakeNumber(%+v, %d): %d, %v", w, lowest, code, ok)
		}
		if _, code, ok := impl.TakeNumber(w, lowest-1); ok != (lowest > 1) || ok && code != 2 {
			t.Fatalf("TakeNumber(%+v, %d): %d, %v", w, lowest-1, code, ok)
		}
	}
	for top := range 300 {
		isLowest(t, fullWindow(top), lowestThere(fullWindow(top)))
	}
}

func TestJoinsByHand(t *testing.T) {
	none := impl.Window{}
	areTogether(t, none, none, none)
	areTogether(t, none, impl.Window{Top: 9, Bits: 257}, impl.Window{Top: 9, Bits: 257})
	areTogether(t, impl.Window{Top: 9, Bits: 5}, impl.Window{Top: 9, Bits: 5}, impl.Window{Top: 9, Bits: 5})
	areTogether(t, impl.Window{Top: 9, Bits: 5}, impl.Window{Top: 9, Bits: 9}, impl.Window{Top: 9, Bits: 13})
	areTogether(t, impl.Window{Top: 40, Bits: 5}, impl.Window{Top: 39, Bits: 1}, impl.Window{Top: 40, Bits: 7})
	areTogether(t, impl.Window{Top: 40, Bits: 1}, impl.Window{Top: 38, Bits: 65535}, impl.Window{Top: 40, Bits: 65533})
	areTogether(t, impl.Window{Top: 40, Bits: 1}, impl.Window{Top: 25, Bits: 65535}, impl.Window{Top: 40, Bits: 32769})
	areTogether(t, impl.Window{Top: 40, Bits: 1}, impl.Window{Top: 24, Bits: 65535}, impl.Window{Top: 40, Bits: 1})
	areTogether(t, impl.Window{Top: 40, Bits: 1}, impl.Window{Top: 23, Bits: 65535}, impl.Window{Top: 40, Bits: 1})
	areTogether(t, impl.Window{Top: impl.MaxTop, Bits: 3}, impl.Window{Top: 1, Bits: 1}, impl.Window{Top: impl.MaxTop, Bits: 3})
	areTogether(t, impl.Window{Top: 16, Bits: 1}, impl.Window{Top: 1, Bits: 1}, impl.Window{Top: 16, Bits: 32769})
	areTogether(t, impl.Window{Top: 17, Bits: 1}, impl.Window{Top: 1, Bits: 1}, impl.Window{Top: 17, Bits: 1})
}

// isJoinedOf holds what is joined against what either has seen.
func isJoinedOf(t *testing.T, a impl.Window, b impl.Window) {
	t.Helper()
	areTogether(t, a, b, joinedThere(a, b))
	both, _ := impl.JoinWindows(a, b)
	isWindow(t, both, true)
	seen := slices.Concat(seenThere(a), seenThere(b))
	areSeen(t, both, slices.Compact(withinThere(seen))...)
}

func TestJoinsAreAsSaid(t *testing.T) {
	r := rand.New(rand.NewSource(162))
	for _, a := range someWindows() {
		isJoinedOf(t, a, a)
		isJoinedOf(t, a, impl.Window{})
		for by := range 2*impl.Wide + 2 {
			if a.Top > by {
				isJoinedOf(t, a, impl.Window{Top: a.Top - by, Bits: 1})
				isJoinedOf(t, a, fullWindow(a.Top-by))
				isJoinedOf(t, a, drawnWindow(r, a.Top-by))
			}
		}
		for _, b := range someWindows() {
			isJoinedOf(t, a, b)
		}
	}
}

// To take a number is to join a window that has seen it alone.
func TestTakingIsJoining(t *testing.T) {
	for _, w := range someWindows() {
		for n := max(w.Top-impl.Wide+1, 1); n <= min(w.Top+2*impl.Wide, impl.MaxTop); n++ {
			want, _ := takenThere(w, n)
			areTogether(t, w, impl.Window{Top: n, Bits: 1}, want)
		}
	}
}

// Two who saw some of the same play have seen together what one who saw all of
// it has, as far as neither was too late.
func TestJoinedPlaysHaveSeenAll(t *testing.T) {
	r := rand.New(rand.NewSource(163))
	for range 2000 {
		var first, second, all []int
		for n := 1 + r.Intn(50); len(all) < mostTaken; n += 1 + r.Intn(4) {
			all = append(all, n)
			if r.Intn(2) == 0 {
				first = append(first, n)
			} else {
				second = append(second, n)
			}
		}
		_, a, _ := impl.PlayNumbers(first)
		_, b, _ := impl.PlayNumbers(second)
		_, want := playedNumbersThere(all)
		areTogether(t, a, b, want)
	}
}
