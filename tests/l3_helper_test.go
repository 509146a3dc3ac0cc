package tests

import (
	"math/rand"
	"slices"
	"testing"

	"loop.example/g00549/impl"
)

const mostBytes = 5
const mostPeriod = 5000

// bitsFrom takes a text of 0 and 1.
func bitsFrom(s string) []bool {
	var out []bool
	for _, c := range s {
		out = append(out, c == '1')
	}
	return out
}

// bitsIn are the lowest many bits of n, the lowest first.
func bitsIn(n int, many int) []bool {
	var out []bool
	for i := range many {
		out = append(out, n>>i&1 == 1)
	}
	return out
}

// tapsIn are those k, from 1 on, for which n has a bit at k less 1.
func tapsIn(n int) []int {
	var out []int
	for k := 1; n>>(k-1) > 0; k++ {
		if n>>(k-1)&1 == 1 {
			out = append(out, k)
		}
	}
	return out
}

// maskOf is the other way round.
func maskOf(taps []int) uint64 {
	mask := uint64(0)
	for _, k := range taps {
		mask |= 1 << (k - 1)
	}
	return mask
}

// makesThere tells what MakesBits should, by the bits ahead, the nearest one
// the lowest, in one number.
func makesThere(mask uint64, long int, bits []bool) bool {
	ahead := uint64(0)
	for i, bit := range bits {
		if i >= long && bit != isOdd(ahead&mask) {
			return false
		}
		ahead <<= 1
		if bit {
			ahead |= 1
		}
	}
	return true
}

func isOdd(n uint64) bool {
	odd := false
	for ; n > 0; n &= n - 1 {
		odd = !odd
	}
	return odd
}

// someTapsDo says whether any taps at most long, above MaxTaps too, make the
// bits: whether the sums that they must meet can all be met (Gauss).
func someTapsDo(bits []bool, long int) bool {
	var rows []uint64 // bit 0: the sum, bit k: whether tap k is in it
	for place := long; place < len(bits); place++ {
		row := uint64(0)
		for k := 0; k <= long; k++ {
			if bits[place-k] {
				row |= 1 << k
			}
		}
		rows = append(rows, row)
	}
	for k := 1; k <= long; k++ {
		at := slices.IndexFunc(rows, func(row uint64) bool { return row>>k&1 == 1 })
		if at < 0 {
			continue
		}
		with := rows[at]
		rows = slices.Delete(rows, at, at+1)
		for i := range rows {
			if rows[i]>>k&1 == 1 {
				rows[i] ^= with
			}
		}
	}
	return !slices.Contains(rows, 1)
}

// longThere is the least long for which some taps do.
func longThere(bits []bool) int {
	long := 0
	for !someTapsDo(bits, long) {
		long++
	}
	return long
}

// masseyThere is Massey's way by polynomials: each change adds the one from
// before the last change of long, moved up.
func masseyThere(bits []bool) (uint64, int) {
	now, before, changed, long := uint64(1), uint64(1), -1, 0
	for n := range bits {
		fails := false
		for k := 0; k <= n; k++ {
			if now>>k&1 == 1 && bits[n-k] {
				fails = !fails
			}
		}
		if !fails {
			continue
		}
		old := now
		now ^= before << (n - changed)
		if next := n + 1 - long; next > long {
			long, before, changed = next, old, n
		}
	}
	return now >> 1, long
}

// streamThere is a stream by its own words, of any length.
func streamThere(taps []int, first []bool, many int) []bool {
	out := slices.Clone(first)
	for len(out) < many {
		sum := 0
		for _, k := range taps {
			if out[len(out)-k] {
				sum++
			}
		}
		out = append(out, sum%2 == 1)
	}
	return out[:many]
}

// allTaps are all good taps, none among them.
func allTaps() [][]int {
	var out [][]int
	for n := range 1 << impl.MaxTaps {
		out = append(out, tapsIn(n))
	}
	return out
}

func greatest(taps []int) int {
	if len(taps) == 0 {
		return 0
	}
	return slices.Max(taps)
}

// firstsFor are first bits for taps: all false, all true, one true at each
// end, and some others.
func firstsFor(taps []int) [][]bool {
	many := greatest(taps)
	if many == 0 {
		return [][]bool{nil}
	}
	full := 1<<many - 1
	var out [][]bool
	for _, n := range []int{0, full, 1, 1 << (many - 1), 0x5a5 & full, 0x2c9 & full} {
		out = append(out, bitsIn(n, many))
	}
	return out
}

// someBits are bits of each length up to MaxBits, the same ones each time:
// single ones, runs, streams of some taps with and without a fault, and others.
func someBits() [][]bool {
	r := rand.New(rand.NewSource(3))
	out := [][]bool{nil, {}}
	for many := 1; many <= impl.MaxBits; many++ {
		full := 1<<many - 1
		out = append(out, bitsIn(0, many), bitsIn(full, many), bitsIn(0x5555555555&full, many), bitsIn(0xaaaaaaaaaa&full, many))
		for at := range many {
			out = append(out, bitsIn(1<<at, many), bitsIn(full>>at, many), bitsIn(full&^(1<<at), many))
		}
		for range 20 {
			out = append(out, bitsIn(r.Intn(1<<many), many))
		}
		for range 20 {
			taps := tapsIn(r.Intn(1 << impl.MaxTaps))
			bits := streamThere(taps, bitsIn(r.Intn(1<<impl.MaxTaps), greatest(taps)), many)
			other := slices.Clone(bits)
			other[r.Intn(many)] = r.Intn(2) == 1
			out = append(out, bits, other)
		}
	}
	return out
}

func wrongTaps() [][]int {
	const least, most = -1 << 63, 1<<63 - 1
	return [][]int{
		{0}, {-1}, {impl.MaxTaps + 1}, {least}, {most}, {0, 1}, {-1, 1}, {least, 1},
		{1, 1}, {2, 1}, {3, 2}, {1, 3, 2}, {2, 1, 3}, {1, 2, 2}, {12, 12}, {12, 1}, {1, 2, 3, 3, 4},
		{1, 13}, {12, 13}, {1, most}, {1, 0}, {1, -1}, {1, least}, {1, 0, 2}, {5, -5, 6}, {1, 2, 13, 12}, {1, 13, 2},
		{1, 2, 3, 4, 5, 6, 7, 8, 9, 10, 11, 12, 13}, {1, 2, 3, 4, 5, 6, 7, 8, 9, 10, 11, 12, 12},
		{0, 1, 2, 3, 4, 5, 6, 7, 8, 9, 10, 11, 12}, make([]int, 1000),
	}
}

func isThose(t *testing.T, what string, got []bool, ok bool, want []bool) {
	t.Helper()
	if !ok || !slices.Equal(got, want) {
		t.Errorf("%s: %v %v, want %v", what, got, ok, want)
	}
}
