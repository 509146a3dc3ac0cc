package tests

import (
	"math"
	"math/rand"
	"slices"

	"loop.example/g00549/impl"
)

const mostWindowBits = 65535
const mostTaken = 60

func isPlayableThere(n int) bool {
	return 0 < n && n <= impl.MaxTop
}

// isWindowThere goes by bits alone.
func isWindowThere(w impl.Window) bool {
	if w.Top < 0 || w.Top > impl.MaxTop || w.Bits != w.Bits&mostWindowBits || w.Bits%2 != min(w.Top, 1) {
		return false
	}
	return w.Top >= impl.Wide || w.Bits < 1<<w.Top
}

// takenThere turns the bits, as Kent and Seo do.
func takenThere(w impl.Window, n int) (impl.Window, int) {
	if n > w.Top {
		// a move by Wide leaves no bit
		moved := w.Bits << min(n-w.Top, impl.Wide) & mostWindowBits
		return impl.Window{Top: n, Bits: moved | 1}, 0
	}
	bit := 1 << min(w.Top-n, impl.Wide)
	if bit > mostWindowBits {
		return w, 2
	}
	if w.Bits&bit > 0 {
		return w, 1
	}
	return impl.Window{Top: w.Top, Bits: w.Bits | bit}, 0
}

// playedNumbersThere are the codes of TakeNumber, one by one.
func playedNumbersThere(l []int) ([]int, impl.Window) {
	var w impl.Window
	var codes []int
	for _, n := range l {
		next, code := takenThere(w, n)
		w, codes = next, append(codes, code)
	}
	return codes, w
}

func playedAllThere(l []int) []int {
	taken := map[int]bool{}
	greatest := 0
	var codes []int
	for _, n := range l {
		code := 0
		if taken[n] {
			code = 1
		} else if n <= greatest-impl.Wide {
			code = 2
		}
		if code == 0 {
			taken[n] = true
			greatest = max(greatest, n)
		}
		codes = append(codes, code)
	}
	return codes
}

func seenThere(w impl.Window) []int {
	var seen []int
	for n := max(w.Top-impl.Wide, 0) + 1; n <= w.Top; n++ {
		if w.Bits>>(w.Top-n)%2 == 1 {
			seen = append(seen, n)
		}
	}
	return seen
}

// lowestThere looks from 1 on.
func lowestThere(w impl.Window) int {
	for n := 1; ; n++ {
		if _, code := takenThere(w, n); code != 2 {
			return n
		}
	}
}

func joinedThere(a impl.Window, b impl.Window) impl.Window {
	if a.Top < b.Top {
		a, b = b, a
	}
	a.Bits |= b.Bits << min(a.Top-b.Top, impl.Wide) & mostWindowBits
	return a
}

// fullWindow has seen all that it can.
func fullWindow(top int) impl.Window {
	w := impl.Window{Top: top, Bits: mostWindowBits}
	if top < impl.Wide {
		w.Bits = 1<<top - 1
	}
	return w
}

func topsToTry() []int {
	return []int{0, 1, 2, 3, impl.Wide - 1, impl.Wide, impl.Wide + 1, 2*impl.Wide - 1, 2 * impl.Wide, 2*impl.Wide + 1, 1000, 4096, impl.MaxTop - impl.Wide, impl.MaxTop - 1, impl.MaxTop}
}

// drawnWindow has any of its bits.
func drawnWindow(r *rand.Rand, top int) impl.Window {
	w := fullWindow(top)
	w.Bits &= r.Intn(mostWindowBits+1) | 1
	return w
}

// someWindows have at each top none but the greatest one, all, one more at each
// place, and any bits.
func someWindows() []impl.Window {
	r := rand.New(rand.NewSource(16))
	out := []impl.Window{{}}
	for _, top := range topsToTry()[1:] {
		out = append(out, impl.Window{Top: top, Bits: 1}, fullWindow(top))
		for k := 1; k < min(top, impl.Wide); k++ {
			out = append(out, impl.Window{Top: top, Bits: 1<<k | 1})
		}
		for range 10 {
			out = append(out, drawnWindow(r, top))
		}
	}
	return out
}

func wrongTops() []int {
	return []int{math.MinInt, math.MinInt + 1, -1 << 32, -impl.MaxTop, -impl.Wide, -2, -1, impl.MaxTop + 1, impl.MaxTop + 2, 1 << 20, 1 << 32, 1<<32 + 7, math.MaxInt - 1, math.MaxInt}
}

func wrongNumbersToTake() []int {
	return append(wrongTops(), 0)
}

func wrongWindowBits() []int {
	return []int{math.MinInt, math.MinInt + 1, -1 << 32, -mostWindowBits, -2, -1, mostWindowBits + 1, mostWindowBits + 2, 1<<17 - 1, 1 << 32, 1<<32 + 1, math.MaxInt - 1, math.MaxInt}
}

// wrongWindows are not good by their top, by their bits, or as these do not go
// together.
func wrongWindows() []impl.Window {
	var out []impl.Window
	for _, top := range wrongTops() {
		for _, bits := range []int{0, 1, 5, mostWindowBits} {
			out = append(out, impl.Window{Top: top, Bits: bits})
		}
	}
	for _, top := range topsToTry() {
		for _, bits := range wrongWindowBits() {
			out = append(out, impl.Window{Top: top, Bits: bits})
		}
		full := fullWindow(top)
		if top > 0 {
			out = append(out, impl.Window{Top: top}, impl.Window{Top: top, Bits: full.Bits - 1})
		}
		// numbers below 1
		for k := top; k < impl.Wide; k++ {
			out = append(out, impl.Window{Top: top, Bits: 1<<k | 1}, impl.Window{Top: top, Bits: 1<<k | full.Bits})
		}
	}
	return slices.DeleteFunc(out, func(w impl.Window) bool { return w == impl.Window{} })
}

// wrongPlayLists are too long, or have a number at a place that is none to take.
func wrongPlayLists() [][]int {
	var out [][]int
	for _, many := range []int{mostTaken + 1, mostTaken + 2, 256, 100000} {
		out = append(out, slices.Repeat([]int{1}, many), slices.Repeat([]int{impl.MaxTop}, many), make([]int, many))
	}
	rising := make([]int, mostTaken+1)
	for i := range rising {
		rising[i] = i + 1
	}
	out = append(out, rising)
	for _, right := range []int{1, 40, impl.MaxTop} {
		out = append(out, wrongAmong(right, wrongNumbersToTake(), 4)...)
	}
	for _, wrong := range []int{-1, 0, impl.MaxTop + 1} {
		for at := range mostTaken {
			l := slices.Clone(rising[:mostTaken])
			l[at] = wrong
			out = append(out, l)
		}
	}
	return out
}

// drawnPlay goes up by steps of up to so many, from somewhere on; some numbers
// are late by up to three windows, some come once more.
func drawnPlay(r *rand.Rand, from int, step int, many int) []int {
	var l []int
	top := from
	for len(l) < many {
		next := top
		switch r.Intn(4) {
		case 0, 1:
			top += 1 + r.Intn(step)
			next = top
		case 2:
			next = top - r.Intn(3*impl.Wide)
		case 3:
			if len(l) > 0 {
				next = l[r.Intn(len(l))]
			}
		}
		top = min(top, impl.MaxTop)
		l = append(l, min(max(next, 1), impl.MaxTop))
	}
	return l
}

// drawnPlays begin low, high, and so that they come up to MaxTop.
func drawnPlays(times int) [][]int {
	r := rand.New(rand.NewSource(160))
	var out [][]int
	for range times {
		for _, step := range []int{1, 2, 5, impl.Wide - 1, impl.Wide, impl.Wide + 1, 3 * impl.Wide, impl.MaxTop / 10} {
			for _, from := range []int{0, 1, impl.Wide, r.Intn(impl.MaxTop), impl.MaxTop - 20*step, impl.MaxTop - impl.Wide, impl.MaxTop} {
				out = append(out, drawnPlay(r, max(from, 0), step, r.Intn(mostTaken+1)), drawnPlay(r, max(from, 0), step, mostTaken))
			}
		}
	}
	return out
}
