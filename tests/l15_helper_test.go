package tests

import (
	"math"
	"math/rand"
	"slices"

	"loop.example/g00549/impl"
)

const nobody = -1
const mostPairs = 15
const mostWord = 255

// pairsAmong are all pairs of so many seats, by their lesser ones.
func pairsAmong(seats int) [][]int {
	var out [][]int
	for lesser := range seats {
		for greater := lesser + 1; greater < seats; greater++ {
			out = append(out, []int{lesser, greater})
		}
	}
	return out
}

// ringPairs go round all seats.
func ringPairs(seats int) [][]int {
	var out [][]int
	for seat := 1; seat < seats; seat++ {
		out = append(out, []int{seat - 1, seat})
	}
	return append(out, []int{0, seats - 1})
}

// coined has an unlike coin for each pair, none of them 0.
func coined(seats int, pairs ...[]int) impl.Table {
	var coins []int
	for n := range pairs {
		coins = append(coins, (n*37+101)%mostWord+1)
	}
	return impl.Table{Seats: seats, Pairs: pairs, Coins: coins}
}

func withCoins(t impl.Table, coin func() int) impl.Table {
	t.Coins = nil
	for range t.Pairs {
		t.Coins = append(t.Coins, coin())
	}
	return t
}

func withDrawnCoins(r *rand.Rand, t impl.Table) impl.Table {
	return withCoins(t, func() int { return r.Intn(mostWord + 1) })
}

func cloneTable(t impl.Table) impl.Table {
	t.Pairs, t.Coins = cloneRows(t.Pairs), slices.Clone(t.Coins)
	return t
}

func alikeTables(a impl.Table, b impl.Table) bool {
	return a.Seats == b.Seats && slices.EqualFunc(a.Pairs, b.Pairs, slices.Equal[[]int]) && slices.Equal(a.Coins, b.Coins)
}

func isWordThere(n int) bool {
	return n == n&mostWord
}

// isTableThere counts the pairs in a square of all seats.
func isTableThere(t impl.Table) bool {
	if t.Seats <= 0 || t.Seats > impl.MaxSeats || len(t.Pairs) > mostPairs || len(t.Pairs) != len(t.Coins) {
		return false
	}
	var met [impl.MaxSeats][impl.MaxSeats]int
	for n, pair := range t.Pairs {
		if len(pair) != 2 || pair[0] < 0 || pair[1] <= pair[0] || pair[1] >= t.Seats || !isWordThere(t.Coins[n]) {
			return false
		}
		if met[pair[0]][pair[1]]++; met[pair[0]][pair[1]] > 1 {
			return false
		}
	}
	return true
}

// saidThere counts, bit by bit, how often a bit is in what a seat has.
func saidThere(t impl.Table, words []int) []int {
	var out []int
	for seat, word := range words {
		said := 0
		for bit := 1; bit <= mostWord; bit *= 2 {
			times := word / bit % 2
			for n, pair := range t.Pairs {
				if slices.Contains(pair, seat) {
					times += t.Coins[n] / bit % 2
				}
			}
			said += times % 2 * bit
		}
		out = append(out, said)
	}
	return out
}

// unlikeSumThere is of numbers that are not below 0.
func unlikeSumThere(said []int) int {
	sum := 0
	for _, n := range said {
		sum = (sum | n) - (sum & n)
	}
	return sum
}

// wordsThere has the word at who, and 0 elsewhere.
func wordsThere(seats int, who int, word int) []int {
	out := make([]int, seats)
	if who >= 0 {
		out[who] = word
	}
	return out
}

// linkedThere tells for each two seats whether pairs lead from one to the other.
func linkedThere(t impl.Table) [impl.MaxSeats][impl.MaxSeats]bool {
	var linked [impl.MaxSeats][impl.MaxSeats]bool
	for seat := range t.Seats {
		linked[seat][seat] = true
	}
	for _, pair := range t.Pairs {
		linked[pair[0]][pair[1]], linked[pair[1]][pair[0]] = true, true
	}
	for by := range t.Seats {
		for a := range t.Seats {
			for b := range t.Seats {
				linked[a][b] = linked[a][b] || linked[a][by] && linked[by][b]
			}
		}
	}
	return linked
}

func groupsThere(t impl.Table) [][]int {
	linked := linkedThere(t)
	var out [][]int
	var grouped [impl.MaxSeats]bool
	for seat := range t.Seats {
		if grouped[seat] {
			continue
		}
		var group []int
		for other := range t.Seats {
			if linked[seat][other] {
				grouped[other] = true
				group = append(group, other)
			}
		}
		out = append(out, group)
	}
	return out
}

func pairNumberThere(t impl.Table, a int, b int) int {
	return slices.IndexFunc(t.Pairs, func(pair []int) bool {
		return slices.Equal(pair, []int{min(a, b), max(a, b)})
	})
}

// seatWaysThere are all ways to b that go on from those seats, none of which
// they come to again.
func seatWaysThere(t impl.Table, gone []int, b int) [][]int {
	at := gone[len(gone)-1]
	if at == b {
		return [][]int{slices.Clone(gone)}
	}
	var out [][]int
	for next := range t.Seats {
		if !slices.Contains(gone, next) && pairNumberThere(t, at, next) >= 0 {
			out = append(out, seatWaysThere(t, append(slices.Clone(gone), next), b)...)
		}
	}
	return out
}

// bestWayThere looks for the best of all ways.
func bestWayThere(t impl.Table, a int, b int) ([]int, bool) {
	ways := seatWaysThere(t, []int{a}, b)
	if len(ways) == 0 {
		return nil, false
	}
	best := slices.MinFunc(ways, func(x []int, y []int) int {
		if len(x) != len(y) {
			return len(x) - len(y)
		}
		return slices.Compare(x, y)
	})
	var out []int
	for i := 1; i < len(best); i++ {
		out = append(out, pairNumberThere(t, best[i-1], best[i]))
	}
	return out, true
}

func otherThere(t impl.Table, a int, b int, word int) impl.Table {
	way, _ := bestWayThere(t, a, b)
	t = cloneTable(t)
	for n := range t.Coins {
		if slices.Contains(way, n) {
			t.Coins[n] = unlikeSumThere([]int{t.Coins[n], word})
		}
	}
	return t
}

// fewSeatTables have each set of pairs of one up to so many seats.
func fewSeatTables(most int) []impl.Table {
	r := rand.New(rand.NewSource(15))
	var out []impl.Table
	for seats := 1; seats <= most; seats++ {
		pairs := pairsAmong(seats)
		for mask := range 1 << len(pairs) {
			out = append(out, withDrawnCoins(r, impl.Table{Seats: seats, Pairs: cloneRows(someOf(pairs, mask))}))
		}
	}
	return out
}

// drawnTable has its pairs in any order.
func drawnTable(r *rand.Rand, seats int) impl.Table {
	pairs := pairsAmong(seats)
	few := 1 + r.Intn(4)
	pairs = slices.DeleteFunc(inAnotherOrder(r, pairs), func([]int) bool { return r.Intn(4) >= few })
	return withDrawnCoins(r, impl.Table{Seats: seats, Pairs: pairs})
}

// plainTables are none, all, a ring, a line, a star round a seat that is not the
// least, and groups, the coins all alike or all unlike.
func plainTables() []impl.Table {
	var out []impl.Table
	for seats := 1; seats <= impl.MaxSeats; seats++ {
		out = append(out, coined(seats), coined(seats, pairsAmong(seats)...))
		backwards := pairsAmong(seats)
		slices.Reverse(backwards)
		out = append(out, coined(seats, backwards...))
		for _, coin := range []int{0, 1, mostWord} {
			out = append(out, withCoins(coined(seats, pairsAmong(seats)...), func() int { return coin }))
		}
		if seats > 2 {
			out = append(out, coined(seats, ringPairs(seats)...), coined(seats, ringPairs(seats)[1:]...))
		}
	}
	return append(out,
		coined(6, []int{0, 3}, []int{1, 3}, []int{2, 3}, []int{3, 4}, []int{3, 5}),
		coined(6, []int{3, 5}, []int{0, 4}, []int{1, 3}, []int{2, 4}),
		coined(6, []int{0, 5}, []int{1, 4}, []int{2, 3}),
		coined(6, []int{0, 2}, []int{2, 4}, []int{0, 4}, []int{1, 3}, []int{3, 5}, []int{1, 5}),
		coined(6, []int{1, 2}),
		coined(5, []int{3, 4}, []int{0, 1}),
	)
}

func someTables() []impl.Table {
	r := rand.New(rand.NewSource(150))
	out := append(plainTables(), fewSeatTables(4)...)
	for n := range 200 {
		out = append(out, drawnTable(r, 4+n%3))
	}
	return out
}

func wrongSeatCounts() []int {
	return []int{math.MinInt, math.MinInt + 1, -1 << 32, -impl.MaxSeats, -2, -1, 0, impl.MaxSeats + 1, impl.MaxSeats + 2, 255, 256, 1 << 32, 1<<32 + 3, math.MaxInt - 1, math.MaxInt}
}

// wrongSeats are no seats, and nobody either.
func wrongSeats(seats int) []int {
	return []int{math.MinInt, math.MinInt + 1, -1 << 32, -impl.MaxSeats, -3, -2, seats, seats + 1, impl.MaxSeats, 255, 256, 1 << 32, 1<<32 + 1, math.MaxInt - 1, math.MaxInt}
}

func wrongWords() []int {
	return []int{math.MinInt, math.MinInt + 1, -1 << 32, -256, -255, -2, -1, mostWord + 1, mostWord + 2, 511, 512, 1 << 32, 1<<32 + 3, math.MaxInt - 1, math.MaxInt}
}

// wrongPairs are no pairs of so many seats, each by one thing alone.
func wrongPairs(seats int) [][]int {
	out := [][]int{nil, {}, {0}, {seats - 1}, {0, 1, 2}, {0, 1, 1}, {0, 0, 1}, {0, 1, seats}, {0, 1, 0, 1}, make([]int, 1000)}
	for a := range seats {
		for b := range a + 1 {
			out = append(out, []int{a, b})
		}
		for _, n := range append(wrongSeats(seats), -1) {
			out = append(out, []int{a, n}, []int{n, a})
		}
	}
	return append(out, []int{-2, -1}, []int{-1, seats}, []int{seats, seats + 1}, []int{math.MinInt, math.MaxInt})
}

// wrongTables are good ones but for one thing.
func wrongTables() []impl.Table {
	out := []impl.Table{{}, {Seats: 0, Pairs: [][]int{}, Coins: []int{}}}
	for _, seats := range wrongSeatCounts() {
		out = append(out, impl.Table{Seats: seats}, coined(seats, []int{0, 1}))
	}
	for _, t := range plainTables() {
		for _, seats := range wrongSeatCounts() {
			other := cloneTable(t)
			other.Seats = seats
			out = append(out, other)
		}
		out = append(out, withWrongCoins(t)...)
		out = append(out, withWrongPairs(t)...)
	}
	return out
}

func withWrongCoins(t impl.Table) []impl.Table {
	more, far := cloneTable(t), cloneTable(t)
	more.Coins = append(more.Coins, 0)
	far.Coins = append(far.Coins, make([]int, 1000)...)
	out := []impl.Table{more, far}
	if len(t.Pairs) == 0 {
		return out
	}
	few, none := cloneTable(t), cloneTable(t)
	few.Coins, none.Coins = few.Coins[1:], nil
	out = append(out, few, none)
	for at := range t.Coins {
		for i, wrong := range wrongWords() {
			if i%5 == at%5 {
				other := cloneTable(t)
				other.Coins[at] = wrong
				out = append(out, other)
			}
		}
	}
	return out
}

func withWrongPairs(t impl.Table) []impl.Table {
	var out []impl.Table
	for i, wrong := range wrongPairs(t.Seats) {
		if len(t.Pairs) < mostPairs {
			other := cloneTable(t)
			other.Pairs, other.Coins = append(other.Pairs, wrong), append(other.Coins, 1)
			out = append(out, other)
		}
		if len(t.Pairs) > 0 {
			other := cloneTable(t)
			other.Pairs[i%len(t.Pairs)] = wrong
			out = append(out, other)
		}
	}
	for at := range t.Pairs {
		behind, ahead, fewer := cloneTable(t), cloneTable(t), cloneTable(t)
		behind.Pairs, behind.Coins = append(behind.Pairs, slices.Clone(t.Pairs[at])), append(behind.Coins, 7)
		ahead.Pairs, ahead.Coins = slices.Insert(ahead.Pairs, 0, slices.Clone(t.Pairs[at])), append(ahead.Coins, 7)
		fewer.Pairs = slices.Delete(fewer.Pairs, at, at+1)
		out = append(out, behind, ahead, fewer)
	}
	return out
}
