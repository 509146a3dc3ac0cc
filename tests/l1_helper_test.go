package tests

import (
	"math/big"
	"math/rand"
	"slices"
	"testing"

	"loop.example/g00549/impl"
)

// beyond is the least number that has no room in six limbs.
func beyond() *big.Int {
	return new(big.Int).Lsh(big.NewInt(1), 96)
}

func fits(n *big.Int) bool {
	return n.Sign() >= 0 && n.Cmp(beyond()) < 0
}

func natOf(a impl.Big) *big.Int {
	n := new(big.Int)
	for i := len(a.L) - 1; i >= 0; i-- {
		n.Lsh(n, 16)
		n.Add(n, big.NewInt(int64(a.L[i])))
	}
	return n
}

func limbsOf(n *big.Int) impl.Big {
	var l []int
	rest := new(big.Int).Set(n)
	for rest.Sign() > 0 {
		l = append(l, int(new(big.Int).And(rest, big.NewInt(impl.Base-1)).Int64()))
		rest.Rsh(rest, 16)
	}
	return impl.Big{L: l}
}

func bigs(rows ...[]int) []impl.Big {
	var out []impl.Big
	for _, r := range rows {
		out = append(out, impl.Big{L: r})
	}
	return out
}

// edgeBigs are good numbers at the edges of limbs, carries and room.
func edgeBigs() []impl.Big {
	const f = impl.Base - 1
	return bigs(
		nil, []int{}, []int{1}, []int{2}, []int{3}, []int{10}, []int{f - 1}, []int{f},
		[]int{0, 1}, []int{1, 1}, []int{f, f}, []int{0, f}, []int{0, 32768},
		[]int{0, 0, 1}, []int{f, 0, 1}, []int{f, f, f}, []int{0, 0, f}, []int{f, 0, f},
		[]int{0, 0, 0, 1}, []int{f, f, f, f}, []int{f, f, f, 32767},
		[]int{0, 0, 0, 0, 1}, []int{1, 0, 0, 0, f},
		[]int{0, 0, 0, 0, 0, 1}, []int{0, 0, 0, 0, 0, 32768}, []int{1, 0, 0, 0, 0, 32768},
		[]int{f, f, f, f, f, 32767}, []int{0, f, f, f, f, f}, []int{f - 1, f, f, f, f, f},
		[]int{f, 0, f, 0, f, 1}, []int{0, 0, 0, 0, 0, f}, []int{f, f, f, f, f, f},
	)
}

// someBigs are the edges and numbers of each length, the same ones each time.
func someBigs() []impl.Big {
	out := edgeBigs()
	r := rand.New(rand.NewSource(1))
	for long := 1; long <= impl.Limbs; long++ {
		for range 8 {
			l := make([]int, long)
			for i := range l {
				l[i] = r.Intn(impl.Base)
			}
			l[long-1] = 1 + r.Intn(impl.Base-1)
			out = append(out, impl.Big{L: l})
		}
	}
	return out
}

// wrongBigs are no good numbers, each for one reason.
func wrongBigs() []impl.Big {
	const least, most = -1 << 63, 1<<63 - 1
	return bigs(
		[]int{0}, []int{1, 0}, []int{0, 0}, []int{1, 2, 3, 4, 5, 0}, []int{0, 0, 0, 0, 0, 0},
		[]int{-1}, []int{1, -1}, []int{-1, 1}, []int{1, -1, 1}, []int{least, 1}, []int{least},
		[]int{impl.Base}, []int{1, impl.Base}, []int{impl.Base, 1}, []int{1, impl.Base, 1}, []int{most},
		[]int{1, 2, 3, 4, 5, 6, 7}, []int{1, 2, 3, 4, 5, 6, 0}, []int{0, 0, 0, 0, 0, 0, 0}, make([]int, 1000),
	)
}

func same(a impl.Big, b impl.Big) bool {
	return slices.Equal(a.L, b.L)
}

func isNought(a impl.Big) bool {
	return len(a.L) == 0
}

// isThat fails the test unless what was answered is n, in the good form, where
// n has room, and the zero answer where it has not.
func isThat(t *testing.T, what string, n *big.Int, got impl.Big, ok bool) {
	t.Helper()
	if !fits(n) {
		if ok || !isNought(got) {
			t.Errorf("%s: %v %v, but %v has no room", what, got, ok, n)
		}
		return
	}
	if !ok || !impl.GoodBig(got) || !same(got, limbsOf(n)) {
		t.Errorf("%s: %v %v, want %v", what, got, ok, limbsOf(n))
	}
}
