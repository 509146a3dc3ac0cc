package tests

import (
	"math/rand"
	"slices"
	"testing"

	"loop.example/g00549/impl"
)

func isTable(t *testing.T, x impl.Table, want bool) {
	t.Helper()
	if got := impl.GoodTable(x); got != want {
		t.Fatalf("GoodTable(%+v): %v", x, got)
	}
}

func areSaid(t *testing.T, x impl.Table, who int, word int, want ...int) {
	t.Helper()
	if got, ok := impl.AllSay(x, who, word); !ok || !slices.Equal(got, want) {
		t.Fatalf("AllSay(%+v, %d, %d): %v, %v, not %v", x, who, word, got, ok, want)
	}
	for seat := range want {
		if got, ok := impl.SayAt(x, seat, who, word); !ok || got != want[seat] {
			t.Fatalf("SayAt(%+v, %d, %d, %d): %d, %v, not %d", x, seat, who, word, got, ok, want[seat])
		}
	}
}

func areSaidTogether(t *testing.T, x impl.Table, words []int, want ...int) {
	t.Helper()
	if got, ok := impl.TogetherSay(x, words); !ok || !slices.Equal(got, want) {
		t.Fatalf("TogetherSay(%+v, %v): %v, %v, not %v", x, words, got, ok, want)
	}
}

func isUnlikeSum(t *testing.T, said []int, want int) {
	t.Helper()
	if got, ok := impl.SumOf(said); !ok || got != want {
		t.Fatalf("SumOf(%v): %d, %v, not %d", said, got, ok, want)
	}
}

func areGroups(t *testing.T, x impl.Table, want ...[]int) {
	t.Helper()
	if got, ok := impl.GroupsOf(x); !ok || !slices.EqualFunc(got, want, slices.Equal[[]int]) {
		t.Fatalf("GroupsOf(%+v): %v, %v, not %v", x, got, ok, want)
	}
}

func isWay(t *testing.T, x impl.Table, a int, b int, want ...int) {
	t.Helper()
	if got, ok := impl.WayBetween(x, a, b); !ok || !slices.Equal(got, want) {
		t.Fatalf("WayBetween(%+v, %d, %d): %v, %v, not %v", x, a, b, got, ok, want)
	}
}

func isNoWay(t *testing.T, x impl.Table, a int, b int) {
	t.Helper()
	isRefusedTable(t, tableCall{name: "WayBetween", t: x, a: a, b: b})
	isRefusedTable(t, tableCall{name: "OtherCoins", t: x, a: a, b: b, word: 1})
}

func isOtherTable(t *testing.T, x impl.Table, a int, b int, word int, want impl.Table) {
	t.Helper()
	if got, ok := impl.OtherCoins(x, a, b, word); !ok || !alikeTables(got, want) {
		t.Fatalf("OtherCoins(%+v, %d, %d, %d): %+v, %v, not %+v", x, a, b, word, got, ok, want)
	}
}

func TestTableLimits(t *testing.T) {
	if impl.MaxSeats != 6 {
		t.Error(impl.MaxSeats)
	}
}

func TestSeatsOfTables(t *testing.T) {
	for seats := -10; seats <= 2*impl.MaxSeats; seats++ {
		isTable(t, impl.Table{Seats: seats}, seats >= 1 && seats <= impl.MaxSeats)
		isTable(t, coined(seats, []int{0, 1}), seats >= 2 && seats <= impl.MaxSeats)
		isTable(t, coined(seats, []int{0, 4}), seats >= 5 && seats <= impl.MaxSeats)
	}
}

// Each list of two numbers from -2 up, alone and ahead of another pair.
func TestPairsOfTables(t *testing.T) {
	for seats := 1; seats <= impl.MaxSeats; seats++ {
		for a := -2; a <= impl.MaxSeats+1; a++ {
			for b := -2; b <= impl.MaxSeats+1; b++ {
				is := 0 <= a && a < b && b < seats
				isTable(t, coined(seats, []int{a, b}), is)
				isTable(t, coined(seats, []int{a, b}, []int{1, 2}), is && seats > 2 && (a != 1 || b != 2))
				isTable(t, coined(seats, []int{1, 2}, []int{a, b}), is && seats > 2 && (a != 1 || b != 2))
			}
		}
	}
}

func TestTablesByHand(t *testing.T) {
	isTable(t, coined(6, pairsAmong(6)...), true)
	isTable(t, coined(6, append(pairsAmong(6), []int{0, 1})...), false)
	isTable(t, coined(6, append(pairsAmong(6), []int{4, 5})...), false)
	isTable(t, coined(5, pairsAmong(6)...), false)
	isTable(t, coined(2, []int{0, 1}), true)
	isTable(t, coined(2, []int{0, 1}, []int{0, 1}), false)
	isTable(t, coined(2, []int{1, 0}), false)
	isTable(t, coined(2, []int{0, 1}, []int{1, 0}), false)
	isTable(t, coined(3, []int{0}), false)
	isTable(t, coined(3, []int{0, 1, 2}), false)
	isTable(t, coined(3, []int{}), false)
	isTable(t, coined(3, nil), false)
	isTable(t, coined(3, []int{1, 1}), false)
	isTable(t, coined(3, []int{1, 3}), false)
	isTable(t, coined(3, []int{-1, 1}), false)
	isTable(t, impl.Table{Seats: 3, Pairs: [][]int{{0, 1}}}, false)
	isTable(t, impl.Table{Seats: 3, Coins: []int{1}}, false)
	isTable(t, impl.Table{Seats: 3, Pairs: [][]int{{0, 1}}, Coins: []int{1, 2}}, false)
	isTable(t, impl.Table{Seats: 3, Pairs: [][]int{{0, 1}, {0, 2}}, Coins: []int{1}}, false)
	isTable(t, impl.Table{Seats: 3, Pairs: [][]int{{0, 1}, {0, 2}}, Coins: []int{7, 7}}, true)
}

func TestCoinsOfTables(t *testing.T) {
	for coin := -300; coin <= 600; coin++ {
		is := coin >= 0 && coin <= mostWord
		isTable(t, impl.Table{Seats: 2, Pairs: [][]int{{0, 1}}, Coins: []int{coin}}, is)
		for at := range mostPairs {
			x := coined(6, pairsAmong(6)...)
			x.Coins[at] = coin
			isTable(t, x, is)
		}
	}
}

func TestTablesAreAsSaid(t *testing.T) {
	for _, x := range someTables() {
		isTable(t, x, true)
		isTable(t, x, isTableThere(x))
	}
	for _, x := range wrongTables() {
		if isTableThere(x) {
			t.Fatalf("%+v", x)
		}
		isTable(t, x, false)
	}
}

func TestWhatIsSaidByHand(t *testing.T) {
	x := impl.Table{Seats: 4, Pairs: [][]int{{1, 2}, {0, 1}, {0, 2}}, Coins: []int{1, 2, 4}}
	areSaid(t, x, nobody, 0, 6, 3, 5, 0)
	areSaid(t, x, nobody, mostWord, 6, 3, 5, 0)
	areSaid(t, x, 0, 0, 6, 3, 5, 0)
	areSaid(t, x, 0, 16, 22, 3, 5, 0)
	areSaid(t, x, 0, 7, 1, 3, 5, 0)
	areSaid(t, x, 1, mostWord, 6, 252, 5, 0)
	areSaid(t, x, 3, 128, 6, 3, 5, 128)
	areSaidTogether(t, x, []int{0, 0, 0, 0}, 6, 3, 5, 0)
	areSaidTogether(t, x, []int{1, 2, 4, 8}, 7, 1, 1, 8)
	areSaidTogether(t, x, []int{mostWord, mostWord, mostWord, mostWord}, 249, 252, 250, mostWord)
	areSaid(t, coined(1), nobody, 9, 0)
	areSaid(t, coined(1), 0, 9, 9)
	areSaid(t, coined(3), 2, 9, 0, 0, 9)
	areSaidTogether(t, coined(3), []int{1, 2, 3}, 1, 2, 3)
	areSaid(t, impl.Table{Seats: 2, Pairs: [][]int{{0, 1}}, Coins: []int{mostWord}}, 1, mostWord, mostWord, 0)
}

func TestSumsByHand(t *testing.T) {
	isUnlikeSum(t, nil, 0)
	isUnlikeSum(t, []int{}, 0)
	isUnlikeSum(t, []int{7}, 7)
	isUnlikeSum(t, []int{0, mostWord}, mostWord)
	isUnlikeSum(t, []int{mostWord, mostWord}, 0)
	isUnlikeSum(t, []int{1, 2, 4, 8, 16, 32}, 63)
	isUnlikeSum(t, []int{3, 5, 9, 17, 33, 65}, 126)
	isUnlikeSum(t, []int{9, 9, 9, 9, 9, 9}, 0)
	isUnlikeSum(t, []int{9, 9, 9, 9, 9}, 9)
}

func TestSumsOfEachTwoNumbers(t *testing.T) {
	for a := -2; a <= mostWord+2; a++ {
		for b := -2; b <= mostWord+2; b++ {
			if isWordThere(a) && isWordThere(b) {
				isUnlikeSum(t, []int{a, b}, unlikeSumThere([]int{a, b}))
				isUnlikeSum(t, []int{a, 0, b, 255, 0, 255}, unlikeSumThere([]int{a, b}))
			} else {
				isRefusedTable(t, tableCall{name: "SumOf", l: []int{a, b}})
			}
		}
	}
}

func TestHowManyAreSummed(t *testing.T) {
	for many := range 3 * impl.MaxSeats {
		for _, n := range []int{0, 1, 128, mostWord} {
			l := slices.Repeat([]int{n}, many)
			if many <= impl.MaxSeats {
				isUnlikeSum(t, l, n*(many%2))
			} else {
				isRefusedTable(t, tableCall{name: "SumOf", l: l})
			}
		}
	}
}

// wordsToTry are the ends, and two between.
func wordsToTry() []int {
	return []int{0, 1, 128, mostWord}
}

// learnTheWord is the first half of promise 15.
func learnTheWord(t *testing.T, x impl.Table, who int, word int) {
	t.Helper()
	words := wordsThere(x.Seats, who, word)
	said, ok := impl.AllSay(x, who, word)
	if !ok {
		t.Fatalf("AllSay(%+v, %d, %d): %v, %v", x, who, word, said, ok)
	}
	isUnlikeSum(t, said, unlikeSumThere(words))
	areSaid(t, x, who, word, saidThere(x, words)...)
	areSaidTogether(t, x, words, said...)
}

// Promise 15: all learn the word.
func TestAllLearnTheWord(t *testing.T) {
	for _, x := range someTables() {
		for who := nobody; who < x.Seats; who++ {
			for _, word := range wordsToTry() {
				learnTheWord(t, x, who, word)
			}
		}
	}
}

func TestAllLearnEachWord(t *testing.T) {
	for _, x := range plainTables() {
		for word := range mostWord + 1 {
			learnTheWord(t, x, nobody, word)
			learnTheWord(t, x, word%x.Seats, word)
		}
	}
}

// The word is in what one group says, and 0 in what any other one does.
func TestEachGroupSaysItsOwn(t *testing.T) {
	for _, x := range someTables() {
		groups, _ := impl.GroupsOf(x)
		for who := nobody; who < x.Seats; who++ {
			said, _ := impl.AllSay(x, who, 77)
			for _, group := range groups {
				own, want := []int{}, 0
				for _, seat := range group {
					own = append(own, said[seat])
				}
				if slices.Contains(group, who) {
					want = 77
				}
				isUnlikeSum(t, own, want)
			}
		}
	}
}

func TestAllLearnTheSumOfAllWords(t *testing.T) {
	r := rand.New(rand.NewSource(151))
	for _, x := range someTables() {
		cases := [][]int{make([]int, x.Seats), slices.Repeat([]int{mostWord}, x.Seats)}
		for range 10 {
			var words []int
			for range x.Seats {
				words = append(words, r.Intn(mostWord+1))
			}
			cases = append(cases, words)
		}
		for _, words := range cases {
			said, _ := impl.TogetherSay(x, words)
			isUnlikeSum(t, said, unlikeSumThere(words))
			areSaidTogether(t, x, words, saidThere(x, words)...)
		}
	}
}

// mightHaveSaidIt is the second half of promise 15.
func mightHaveSaidIt(t *testing.T, x impl.Table, who int, other int, word int) {
	t.Helper()
	y, ok := impl.OtherCoins(x, who, other, word)
	way, _ := impl.WayBetween(x, who, other)
	if !ok || !impl.GoodTable(y) || y.Seats != x.Seats || !slices.EqualFunc(y.Pairs, x.Pairs, slices.Equal[[]int]) {
		t.Fatalf("OtherCoins(%+v, %d, %d, %d): %+v, %v", x, who, other, word, y, ok)
	}
	for n, coin := range x.Coins {
		want := coin
		if slices.Contains(way, n) {
			want = unlikeSumThere([]int{coin, word})
		}
		if y.Coins[n] != want {
			t.Fatalf("OtherCoins(%+v, %d, %d, %d): %+v, on the way %v", x, who, other, word, y, way)
		}
	}
	said, _ := impl.AllSay(x, who, word)
	areSaid(t, y, other, word, said...)
	isOtherTable(t, x, who, other, word, otherThere(x, who, other, word))
}

// Promise 15: with other coins any other one of the group might have said it.
func TestAnyOtherOneMightHaveSaidIt(t *testing.T) {
	for _, x := range someTables() {
		linked := linkedThere(x)
		for who := range x.Seats {
			for other := range x.Seats {
				for _, word := range wordsToTry() {
					if linked[who][other] {
						mightHaveSaidIt(t, x, who, other, word)
					} else {
						isRefusedTable(t, tableCall{name: "OtherCoins", t: x, a: who, b: other, word: word})
					}
				}
			}
		}
	}
}

func TestOtherCoinsOfEachWord(t *testing.T) {
	x := coined(6, ringPairs(6)...)
	for word := range mostWord + 1 {
		for other := range 6 {
			mightHaveSaidIt(t, x, word%6, other, word)
		}
	}
}

func TestOtherCoinsByHand(t *testing.T) {
	x := impl.Table{Seats: 4, Pairs: [][]int{{1, 2}, {0, 1}}, Coins: []int{1, mostWord}}
	isOtherTable(t, x, 0, 2, 3, impl.Table{Seats: 4, Pairs: [][]int{{1, 2}, {0, 1}}, Coins: []int{2, 252}})
	isOtherTable(t, x, 2, 0, 3, impl.Table{Seats: 4, Pairs: [][]int{{1, 2}, {0, 1}}, Coins: []int{2, 252}})
	isOtherTable(t, x, 1, 0, mostWord, impl.Table{Seats: 4, Pairs: [][]int{{1, 2}, {0, 1}}, Coins: []int{1, 0}})
	isOtherTable(t, x, 0, 2, 0, x)
	isOtherTable(t, x, 3, 3, 7, x)
	isOtherTable(t, x, 1, 1, mostWord, x)
	isOtherTable(t, coined(1), 0, 0, 7, coined(1))
	isNoWay(t, x, 0, 3)
	isNoWay(t, x, 3, 2)
	isNoWay(t, coined(2), 0, 1)
}

func TestGroupsByHand(t *testing.T) {
	areGroups(t, coined(1), []int{0})
	areGroups(t, coined(6), []int{0}, []int{1}, []int{2}, []int{3}, []int{4}, []int{5})
	areGroups(t, coined(2, []int{0, 1}), []int{0, 1})
	areGroups(t, coined(6, ringPairs(6)...), []int{0, 1, 2, 3, 4, 5})
	areGroups(t, coined(6, pairsAmong(6)...), []int{0, 1, 2, 3, 4, 5})
	areGroups(t, coined(6, []int{3, 5}, []int{0, 4}, []int{1, 3}, []int{2, 4}), []int{0, 2, 4}, []int{1, 3, 5})
	areGroups(t, coined(6, []int{0, 5}, []int{2, 3}, []int{1, 4}), []int{0, 5}, []int{1, 4}, []int{2, 3})
	areGroups(t, coined(6, []int{4, 5}, []int{1, 4}), []int{0}, []int{1, 4, 5}, []int{2}, []int{3})
	areGroups(t, coined(5, []int{2, 4}, []int{2, 3}, []int{0, 1}), []int{0, 1}, []int{2, 3, 4})
	// the one lesser seat is met only over greater ones
	areGroups(t, coined(4, []int{1, 3}, []int{2, 3}, []int{0, 2}), []int{0, 1, 2, 3})
}

func TestWaysBetweenByHand(t *testing.T) {
	ring := coined(6, ringPairs(6)...)
	isWay(t, ring, 0, 3, 0, 1, 2)
	isWay(t, ring, 3, 0, 2, 1, 0)
	isWay(t, ring, 1, 4, 0, 5, 4)
	isWay(t, ring, 4, 1, 3, 2, 1)
	isWay(t, ring, 2, 5, 1, 0, 5)
	isWay(t, ring, 5, 2, 5, 0, 1)
	isWay(t, ring, 0, 5, 5)
	isWay(t, ring, 5, 1, 5, 0)
	isWay(t, ring, 4, 4)
	// 1 is the least next seat, but on no way to 3
	isWay(t, coined(4, []int{0, 1}, []int{0, 2}, []int{2, 3}), 0, 3, 1, 2)
	// the way over 1 and 2 has more pairs
	isWay(t, coined(5, []int{0, 1}, []int{1, 2}, []int{2, 4}, []int{0, 3}, []int{3, 4}), 0, 4, 3, 4)
	isWay(t, coined(5, []int{0, 1}, []int{1, 2}, []int{2, 4}, []int{0, 3}, []int{3, 4}), 4, 1, 2, 1)
	// the seat counts, not the number of the pair
	isWay(t, coined(4, []int{2, 3}, []int{0, 2}, []int{1, 3}, []int{0, 1}), 0, 3, 3, 2)
	isWay(t, coined(4, []int{2, 3}, []int{0, 2}, []int{1, 3}, []int{0, 1}), 3, 0, 2, 3)
	isWay(t, coined(6, []int{0, 2}, []int{0, 1}, []int{1, 4}, []int{2, 3}, []int{3, 5}, []int{4, 5}), 0, 5, 1, 2, 5)
	isWay(t, coined(6, []int{0, 2}, []int{0, 1}, []int{1, 4}, []int{2, 3}, []int{3, 5}, []int{4, 5}), 5, 0, 4, 3, 0)
	isWay(t, coined(1), 0, 0)
	isWay(t, coined(6), 5, 5)
	isNoWay(t, coined(6), 0, 5)
	isNoWay(t, coined(4, []int{0, 1}, []int{2, 3}), 0, 3)
	isNoWay(t, coined(4, []int{0, 1}, []int{2, 3}), 2, 1)
}

// Of all 15 pairs the one of both seats is the way.
func TestWaysWhereAllArePairs(t *testing.T) {
	x := coined(6, pairsAmong(6)...)
	for a := range 6 {
		for b := range 6 {
			if a != b {
				isWay(t, x, a, b, pairNumberThere(x, a, b))
			}
		}
	}
}

// areLinkedAsSaid holds the ways and groups against a search of all ways.
func areLinkedAsSaid(t *testing.T, x impl.Table) {
	t.Helper()
	areGroups(t, x, groupsThere(x)...)
	for a := range x.Seats {
		for b := range x.Seats {
			if want, ok := bestWayThere(x, a, b); ok {
				isWay(t, x, a, b, want...)
			} else {
				isNoWay(t, x, a, b)
			}
		}
	}
}

func TestWaysOfAllTablesOfFewSeats(t *testing.T) {
	for _, x := range fewSeatTables(5) {
		areLinkedAsSaid(t, x)
	}
}

func TestWaysAreAsSaid(t *testing.T) {
	r := rand.New(rand.NewSource(152))
	for _, x := range plainTables() {
		areLinkedAsSaid(t, x)
	}
	for n := range 2000 {
		areLinkedAsSaid(t, drawnTable(r, 1+n%impl.MaxSeats))
	}
}

// The same pairs in all orders have the same groups, and ways of the same seats.
func TestWaysDoNotHangOnTheOrderOfPairs(t *testing.T) {
	for _, pairs := range [][][]int{ringPairs(6), {{0, 2}, {0, 1}, {1, 3}, {2, 3}, {3, 4}}} {
		for order := range eachOrderOf(len(pairs)) {
			var turned [][]int
			for _, n := range order {
				turned = append(turned, pairs[n])
			}
			x, y := coined(6, pairs...), coined(6, turned...)
			areGroups(t, y, groupsThere(x)...)
			for a := range 6 {
				for b := range 6 {
					want, is := impl.WayBetween(x, a, b)
					got, ok := impl.WayBetween(y, a, b)
					if ok != is || len(got) != len(want) {
						t.Fatalf("WayBetween(%+v, %d, %d): %v, %v", y, a, b, got, ok)
					}
					for i := range got {
						if order[got[i]] != want[i] {
							t.Fatalf("WayBetween(%+v, %d, %d): %v, not those of %v", y, a, b, got, want)
						}
					}
				}
			}
		}
	}
}
