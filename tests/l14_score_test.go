package tests

import (
	"math/rand"
	"slices"
	"testing"

	"loop.example/g00549/impl"
)

func isScore(t *testing.T, one impl.Tally, want int) {
	t.Helper()
	if got, ok := impl.ScoreOf(one); !ok || got != want {
		t.Fatalf("ScoreOf(%+v): %d, %v, not %d", one, got, ok, want)
	}
}

func areRanked(t *testing.T, l []impl.Tally, want ...int) {
	t.Helper()
	if got, ok := impl.RankHands(l); !ok || !slices.Equal(got, want) {
		t.Fatalf("RankHands(%+v): %v, %v, not %v", l, got, ok, want)
	}
}

func areWays(t *testing.T, l []impl.Tally, long int, want ...[]int) {
	t.Helper()
	if got, ok := impl.WaysOf(l, long); !ok || !slices.EqualFunc(got, want, slices.Equal[[]int]) {
		t.Fatalf("WaysOf(%+v, %d): %v, %v, not %v", l, long, got, ok, want)
	}
}

func areAdded(t *testing.T, a []impl.Tally, b []impl.Tally, want []impl.Tally) {
	t.Helper()
	if got, ok := impl.AddTallies(a, b); !ok || !slices.Equal(got, want) {
		t.Fatalf("AddTallies(%+v, %+v): %+v, %v, not %+v", a, b, got, ok, want)
	}
}

func areNotAdded(t *testing.T, a []impl.Tally, b []impl.Tally) {
	t.Helper()
	if got, ok := impl.AddTallies(a, b); ok || len(got) > 0 {
		t.Fatalf("AddTallies(%+v, %+v): %+v, %v", a, b, got, ok)
	}
}

func areDebits(t *testing.T, faults int, l []impl.Statement, hand int, want ...impl.Claim) {
	t.Helper()
	if got, ok := impl.DebitsFor(faults, l, hand); !ok || !slices.Equal(got, want) {
		t.Fatalf("DebitsFor(%d, %+v, %d): %+v, %v, not %+v", faults, l, hand, got, ok, want)
	}
}

func areTallied(t *testing.T, faults int, e evidence, want ...impl.Tally) {
	t.Helper()
	if got, ok := impl.TallyOf(len(want), faults, e.done, e.l); !ok || !slices.Equal(got, want) {
		t.Fatalf("TallyOf(%d, %d, %+v, %+v): %+v, %v, not %+v", len(want), faults, e.done, e.l, got, ok, want)
	}
	if !impl.GoodTallies(want) {
		t.Fatalf("GoodTallies(%+v)", want)
	}
}

func TestTallyLimits(t *testing.T) {
	if impl.MaxHandsIn != 12 {
		t.Error(impl.MaxHandsIn)
	}
}

// Each thing of a tally at its ends and beyond, beside all ends of the others.
func TestTalliesAtTheirEnds(t *testing.T) {
	counts := append(wrongCounted(), 0, 1, mostCounted-1, mostCounted)
	for _, hand := range append(wrongHandsIn(), 0, 1, impl.MaxHandsIn-2, impl.MaxHandsIn-1) {
		for _, good := range counts {
			for _, bad := range counts {
				one := impl.Tally{Hand: hand, Good: good, Bad: bad}
				got, ok := impl.ScoreOf(one)
				if is := isTallyThere(one); ok != is || is && got != scoreThere(one) || !is && got != 0 {
					t.Fatalf("ScoreOf(%+v): %d, %v", one, got, ok)
				}
				for at := range impl.MaxHandsIn {
					l := alikeTallies(at+1, 1, 1)
					l[at] = one
					if got := impl.GoodTallies(l); got != areTalliesThere(l) {
						t.Fatalf("GoodTallies(%+v): %v", l, got)
					}
				}
			}
		}
	}
}

func TestHowManyTalliesAreGood(t *testing.T) {
	for many := range 3 * impl.MaxHandsIn {
		if got := impl.GoodTallies(alikeTallies(many, 1, 1)); got != (many >= 1 && many <= impl.MaxHandsIn) {
			t.Errorf("%d tallies: %v", many, got)
		}
	}
	for _, l := range someTallies() {
		if !impl.GoodTallies(l) {
			t.Errorf("GoodTallies(%+v)", l)
		}
	}
}

// All orders of up to six hands: the rising one alone is good.
func TestTalliesStandAtTheirPlaces(t *testing.T) {
	for hands := 1; hands <= 6; hands++ {
		for order := range eachOrderOf(hands) {
			var l []impl.Tally
			for _, hand := range order {
				l = append(l, impl.Tally{Hand: hand, Good: hand, Bad: 1})
			}
			if got := impl.GoodTallies(l); got != slices.IsSorted(order) {
				t.Fatalf("GoodTallies(%+v): %v", l, got)
			}
		}
	}
}

func TestScoresByHand(t *testing.T) {
	isScore(t, impl.Tally{}, 50)
	isScore(t, impl.Tally{Hand: 11}, 50)
	isScore(t, impl.Tally{Good: 1}, 66)
	isScore(t, impl.Tally{Bad: 1}, 33)
	isScore(t, impl.Tally{Good: 1, Bad: 1}, 50)
	isScore(t, impl.Tally{Good: 2}, 75)
	isScore(t, impl.Tally{Good: 2, Bad: 3}, 42)
	isScore(t, impl.Tally{Good: 100}, 99)
	isScore(t, impl.Tally{Bad: 100}, 0)
	isScore(t, impl.Tally{Bad: 98}, 1)
	isScore(t, impl.Tally{Bad: 99}, 0)
	isScore(t, impl.Tally{Hand: 11, Good: 100, Bad: 100}, 50)
}

func TestEachScore(t *testing.T) {
	for good := range mostCounted + 1 {
		for bad := range mostCounted + 1 {
			for _, hand := range []int{0, 5, impl.MaxHandsIn - 1} {
				one := impl.Tally{Hand: hand, Good: good, Bad: bad}
				isScore(t, one, scoreThere(one))
			}
		}
	}
}

func TestRanksByHand(t *testing.T) {
	areRanked(t, talliesOf([2]int{0, 0}), 0)
	areRanked(t, talliesOf([2]int{0, 0}, [2]int{0, 0}), 0, 1)
	areRanked(t, talliesOf([2]int{0, 0}, [2]int{1, 0}), 1, 0)
	areRanked(t, talliesOf([2]int{1, 0}, [2]int{0, 0}), 0, 1)
	areRanked(t, talliesOf([2]int{1, 0}, [2]int{0, 1}, [2]int{0, 0}), 0, 2, 1)
	areRanked(t, talliesOf([2]int{0, 1}, [2]int{5, 5}, [2]int{0, 0}, [2]int{3, 3}, [2]int{1, 0}), 4, 1, 2, 3, 0)
	// 100, 0 and 99, 0 have one score, as it goes down
	areRanked(t, talliesOf([2]int{99, 0}, [2]int{100, 0}), 0, 1)
	areRanked(t, talliesOf([2]int{0, 100}, [2]int{0, 99}, [2]int{0, 98}), 2, 0, 1)
}

// Scores that rise, fall, or are alike, of each number of hands.
func TestRanksInOneDirection(t *testing.T) {
	for hands := 1; hands <= impl.MaxHandsIn; hands++ {
		var falling, rising [][2]int
		for hand := range hands {
			falling = append(falling, [2]int{20, hand})
			rising = append(rising, [2]int{hand, 20})
		}
		areRanked(t, talliesOf(falling...), risingOrder(hands)...)
		areRanked(t, talliesOf(rising...), backwardsOrder(hands)...)
		for good := range mostCounted + 1 {
			areRanked(t, alikeTallies(hands, good, 7), risingOrder(hands)...)
		}
	}
}

func TestRanksAreAsSaid(t *testing.T) {
	r := rand.New(rand.NewSource(141))
	for _, l := range someTallies() {
		areRanked(t, l, rankedThere(l)...)
	}
	for n := range 20000 {
		l := drawnTallies(r, 1+n%impl.MaxHandsIn)
		areRanked(t, l, rankedThere(l)...)
	}
}

// Each two scores of the hands, all that there are of three of them.
func TestRanksOfThreeScores(t *testing.T) {
	counts := [][2]int{{1, 3}, {2, 2}, {3, 1}}
	for hands := 1; hands <= 7; hands++ {
		for n := range 3 * 3 * 3 * 3 * 3 * 3 * 3 {
			var own [][2]int
			for at := n; len(own) < hands; at /= 3 {
				own = append(own, counts[at%3])
			}
			l := talliesOf(own...)
			areRanked(t, l, rankedThere(l)...)
		}
	}
}

func TestWaysByHand(t *testing.T) {
	l := talliesOf([2]int{0, 0}, [2]int{0, 3}, [2]int{4, 0}, [2]int{0, 1}, [2]int{2, 0}, [2]int{0, 2}, [2]int{1, 0})
	areRanked(t, l, 2, 4, 6, 0, 3, 5, 1)
	areWays(t, l, 1, []int{2}, []int{4}, []int{6}, []int{0}, []int{3}, []int{5}, []int{1})
	areWays(t, l, 2, []int{2, 0}, []int{4, 3}, []int{6, 5})
	areWays(t, l, 3, []int{2, 6, 3}, []int{4, 0, 5})
	areWays(t, l, 4, []int{2, 4, 6, 0})
	areWays(t, l[:3], 1, []int{2}, []int{0}, []int{1})
	areWays(t, l[:3], 2, []int{2, 0})
	areWays(t, l[:3], 3, []int{2, 0, 1})
	areWays(t, l[:3], 4)
	areWays(t, l[:1], 1, []int{0})
	areWays(t, l[:1], 2)
	areWays(t, alikeTallies(12, 0, 0), 4, []int{0, 3, 6, 9}, []int{1, 4, 7, 10}, []int{2, 5, 8, 11})
	areWays(t, alikeTallies(12, 0, 0), 3, []int{0, 4, 8}, []int{1, 5, 9}, []int{2, 6, 10}, []int{3, 7, 11})
	areWays(t, alikeTallies(11, 0, 0), 4, []int{0, 2, 4, 6}, []int{1, 3, 5, 7})
}

// goApart is promise 14 of ways.
func goApart(t *testing.T, l []impl.Tally, long int) {
	t.Helper()
	ways, ok := impl.WaysOf(l, long)
	ranked, okRanked := impl.RankHands(l)
	if !ok || !okRanked || len(ways) != len(l)/long {
		t.Fatalf("WaysOf(%+v, %d): %v, %v", l, long, ways, ok)
	}
	var all []int
	for _, way := range ways {
		if len(way) != long {
			t.Fatalf("WaysOf(%+v, %d): %v", l, long, ways)
		}
		all = append(all, way...)
	}
	slices.Sort(all)
	first := slices.Clone(ranked[:len(ways)*long])
	slices.Sort(first)
	if len(slices.Compact(slices.Clone(all))) != len(all) {
		t.Fatalf("WaysOf(%+v, %d): %v has a hand twice", l, long, ways)
	}
	if !slices.Equal(all, first) {
		t.Fatalf("WaysOf(%+v, %d): %v, not of the first ones of %v", l, long, ways, ranked)
	}
	areWays(t, l, long, waysThere(l, long)...)
}

// Promise 14: each hand is in one way at most.
func TestEachHandIsInOneWayAtMost(t *testing.T) {
	r := rand.New(rand.NewSource(142))
	for long := 1; long <= mostWayLong; long++ {
		for _, l := range someTallies() {
			goApart(t, l, long)
		}
		for hands := 1; hands <= impl.MaxHandsIn; hands++ {
			for range 500 {
				goApart(t, drawnTallies(r, hands), long)
			}
		}
	}
}

func TestSumsOfTalliesByHand(t *testing.T) {
	a, b := talliesOf([2]int{1, 2}, [2]int{0, 5}), talliesOf([2]int{10, 20}, [2]int{7, 0})
	areAdded(t, a, b, talliesOf([2]int{11, 22}, [2]int{7, 5}))
	areAdded(t, b, a, talliesOf([2]int{11, 22}, [2]int{7, 5}))
	areAdded(t, a, a, talliesOf([2]int{2, 4}, [2]int{0, 10}))
	areAdded(t, a[:1], b[:1], talliesOf([2]int{11, 22}))
	areNotAdded(t, a, b[:1])
	areNotAdded(t, a[:1], b)
	areNotAdded(t, a, nil)
	areNotAdded(t, nil, a)
	areNotAdded(t, nil, nil)
	areNotAdded(t, a[1:], b[1:])
	areNotAdded(t, a[:1], b[1:])
}

func TestSumsOfUnlikeLengths(t *testing.T) {
	for one := range impl.MaxHandsIn + 3 {
		for other := range impl.MaxHandsIn + 3 {
			a, b := alikeTallies(one, 1, 2), alikeTallies(other, 3, 4)
			if one == other && one >= 1 && one <= impl.MaxHandsIn {
				areAdded(t, a, b, alikeTallies(one, 4, 6))
			} else {
				areNotAdded(t, a, b)
			}
		}
	}
}

// Sums of 100 and of 101, in Good and in Bad, of each hand.
func TestSumsUpToTheMost(t *testing.T) {
	for hands := 1; hands <= impl.MaxHandsIn; hands++ {
		for at := range hands {
			for n := range mostCounted + 1 {
				a, b := alikeTallies(hands, 1, 1), alikeTallies(hands, 2, 2)
				a[at].Good, b[at].Good = n, mostCounted-n
				areAdded(t, a, b, addedThere(a, b))
				a[at].Bad, b[at].Bad = mostCounted-n, n
				areAdded(t, a, b, addedThere(a, b))
				if n < mostCounted {
					beyond := slices.Clone(a)
					beyond[at].Good++
					areNotAdded(t, beyond, b)
					areNotAdded(t, b, beyond)
					beyond = slices.Clone(b)
					beyond[at].Bad++
					areNotAdded(t, a, beyond)
					areNotAdded(t, beyond, a)
				}
			}
		}
		areNotAdded(t, alikeTallies(hands, mostCounted, 0), alikeTallies(hands, mostCounted, 0))
		areNotAdded(t, alikeTallies(hands, 0, mostCounted), alikeTallies(hands, 0, mostCounted))
		areAdded(t, alikeTallies(hands, mostCounted, 0), alikeTallies(hands, 0, mostCounted), alikeTallies(hands, mostCounted, mostCounted))
	}
}

func TestSumsAreAsSaid(t *testing.T) {
	r := rand.New(rand.NewSource(143))
	for n := range 20000 {
		hands := 1 + n%impl.MaxHandsIn
		a, b := drawnTallies(r, hands), drawnTallies(r, hands)
		if want := addedThere(a, b); areTalliesThere(want) {
			areAdded(t, a, b, want)
		} else {
			areNotAdded(t, a, b)
		}
	}
}

func TestDebitsByHand(t *testing.T) {
	a, b, c, o := impl.Claim{Hand: 1, Letter: 2}, impl.Claim{Hand: 1, Letter: 2, Epoch: 1}, impl.Claim{Hand: 1, Letter: 3}, impl.Claim{Hand: 2, Letter: 2}
	areDebits(t, 0, nil, 0)
	areDebits(t, 0, nil, mostAccused)
	l := []impl.Statement{stated(4, c, true), stated(3, o, true), stated(6, b, true), stated(2, a, true), stated(0, c, true), stated(1, a, false), stated(1, b, true), stated(5, c, true)}
	areDebits(t, 0, l, 1, a, b, c)
	areDebits(t, 1, l, 1, b, c)
	areDebits(t, 2, l, 1, c)
	areDebits(t, 0, l, 2, o)
	areDebits(t, 1, l, 2)
	areDebits(t, 0, l, 0)
	areDebits(t, 0, l, 3)
	both := append(slices.Clone(l), stated(4, c, false), stated(2, a, false))
	areDebits(t, 0, both, 1, b, c)
	areDebits(t, 2, both, 1)
	areDebits(t, 0, slices.Concat(l, l, l), 1, a, b, c)
	areDebits(t, 0, make([]impl.Statement, mostStated), 0)
	areDebits(t, 0, []impl.Statement{{Refused: true}}, 0, impl.Claim{})
	areDebits(t, 0, []impl.Statement{stated(6, impl.Claim{Hand: mostAccused, Letter: mostNumbered, Epoch: mostClaimEpoch}, true)}, mostAccused, impl.Claim{Hand: mostAccused, Letter: mostNumbered, Epoch: mostClaimEpoch})
}

// As many debits as there is room for, of one hand and of each.
func TestTheMostDebits(t *testing.T) {
	var one, each []impl.Statement
	var claims []impl.Claim
	for n := range mostStated {
		claims = append(claims, impl.Claim{Hand: 7, Letter: n / 5, Epoch: n % 5})
		one = append(one, stated(n%impl.MaxWitnesses, claims[n], true))
		each = append(each, stated(n%impl.MaxWitnesses, impl.Claim{Hand: n % impl.MaxHandsIn, Letter: mostNumbered - n}, true))
	}
	areDebits(t, 0, one, 7, claims...)
	areDebits(t, 1, one, 7)
	slices.Reverse(one)
	areDebits(t, 0, one, 7, claims...)
	want := alikeTallies(impl.MaxHandsIn, 0, 0)
	want[7].Bad = mostStated
	areTallied(t, 0, evidence{done: claims, l: one}, want...)
	want[7] = impl.Tally{Hand: 7, Good: mostCarried}
	areTallied(t, 1, evidence{done: claims, l: one}, want...)
	areTallied(t, 0, evidence{l: each}, alikeTallies(impl.MaxHandsIn, 0, mostStated/impl.MaxHandsIn)...)
	areTallied(t, 0, evidence{done: claims, l: each}, addedThere(want, alikeTallies(impl.MaxHandsIn, 0, mostStated/impl.MaxHandsIn))...)
}

func TestTalliesByHand(t *testing.T) {
	c, o := impl.Claim{Hand: 1, Letter: 2}, impl.Claim{Hand: 1, Letter: 2, Epoch: 1}
	l := []impl.Statement{stated(0, c, true), stated(1, c, true)}
	done := []impl.Claim{{Letter: 1}, {Letter: 1}, c, o, c}
	areTallied(t, 0, evidence{}, alikeTallies(1, 0, 0)...)
	areTallied(t, 2, evidence{}, alikeTallies(impl.MaxHandsIn, 0, 0)...)
	areTallied(t, 1, evidence{done: done}, talliesOf([2]int{1, 0}, [2]int{2, 0}, [2]int{0, 0})...)
	areTallied(t, 1, evidence{l: l}, talliesOf([2]int{0, 0}, [2]int{0, 1}, [2]int{0, 0})...)
	areTallied(t, 1, evidence{done: done, l: l}, talliesOf([2]int{1, 0}, [2]int{1, 1}, [2]int{0, 0})...)
	areTallied(t, 2, evidence{done: done, l: l}, talliesOf([2]int{1, 0}, [2]int{2, 0}, [2]int{0, 0})...)
	areTallied(t, 1, evidence{done: done, l: l}, talliesOf([2]int{1, 0})...)
	areTallied(t, 0, evidence{done: done, l: append(l, stated(0, c, false))}, talliesOf([2]int{1, 0}, [2]int{1, 1})...)
	areTallied(t, 1, evidence{done: done, l: append(l, stated(0, c, false))}, talliesOf([2]int{1, 0}, [2]int{2, 0})...)
	far := []impl.Claim{{Hand: impl.MaxHandsIn}, {Hand: mostAccused}, {Hand: impl.MaxHandsIn - 1}}
	areTallied(t, 0, evidence{done: far, l: []impl.Statement{stated(0, far[1], true), stated(0, far[0], true)}}, append(alikeTallies(impl.MaxHandsIn-1, 0, 0), impl.Tally{Hand: impl.MaxHandsIn - 1, Good: 1})...)
}

// A claim of a hand that is not tallied is in no tally, whether it was carried
// or refused.
func TestHandsThatAreNotTallied(t *testing.T) {
	var e evidence
	for hand := range mostAccused + 1 {
		e.done = append(e.done, impl.Claim{Hand: hand, Letter: 1}, impl.Claim{Hand: hand, Letter: 2})
		e.l = append(e.l, stated(0, impl.Claim{Hand: hand, Letter: 2}, true), stated(6, impl.Claim{Hand: hand, Letter: 2}, true))
	}
	for hands := 1; hands <= impl.MaxHandsIn; hands++ {
		areTallied(t, 1, e, alikeTallies(hands, 1, 1)...)
		areTallied(t, 2, e, alikeTallies(hands, 2, 0)...)
	}
}

// isTalliedAsSaid holds one tally against the claims that are told apart by
// hand, and all of them against a second build.
func isTalliedAsSaid(t *testing.T, hands int, faults int, e evidence) {
	t.Helper()
	want := talliesThere(hands, faults, e.done, e.l)
	areTallied(t, faults, e, want...)
	for hand := range mostAccused + 1 {
		debits, ok := impl.DebitsFor(faults, e.l, hand)
		if !ok || !slices.Equal(debits, debitsThere(faults, e.l, hand)) {
			t.Fatalf("DebitsFor(%d, %+v, %d): %+v, %v", faults, e.l, hand, debits, ok)
		}
		if hand >= hands {
			continue
		}
		credits := map[impl.Claim]bool{}
		for _, c := range e.done {
			if c.Hand == hand && !slices.Contains(debits, c) {
				credits[c] = true
			}
		}
		if want[hand].Good != len(credits) || want[hand].Bad != len(debits) {
			t.Fatalf("TallyOf(%d, %d, %+v, %+v): %+v", hands, faults, e.done, e.l, want)
		}
	}
}

func TestTalliesAreAsSaid(t *testing.T) {
	r := rand.New(rand.NewSource(144))
	told := map[impl.Tally]int{}
	for n := range 3000 {
		e := drawnEvidence(r)
		for faults := range mostFaulty + 1 {
			isTalliedAsSaid(t, 1+n%impl.MaxHandsIn, faults, e)
			told[talliesThere(1, faults, e.done, e.l)[0]]++
		}
	}
	for _, both := range [][2]int{{0, 0}, {0, 1}, {0, 3}, {1, 0}, {3, 0}, {1, 1}, {2, 2}} {
		if many := told[impl.Tally{Good: both[0], Bad: both[1]}]; many < 20 {
			t.Errorf("%v is told %d times", both, many)
		}
	}
}

// followAlike is promise 14 of two evidences that are one but for their order.
func followAlike(t *testing.T, hands int, faults int, e evidence, o evidence) {
	t.Helper()
	want, ok := impl.TallyOf(hands, faults, e.done, e.l)
	if !ok {
		t.Fatalf("TallyOf(%d, %d, %+v, %+v) is refused", hands, faults, e.done, e.l)
	}
	areTallied(t, faults, o, want...)
	for hand := range mostAccused + 1 {
		debits, ok := impl.DebitsFor(faults, e.l, hand)
		if !ok {
			t.Fatalf("DebitsFor(%d, %+v, %d) is refused", faults, e.l, hand)
		}
		areDebits(t, faults, o.l, hand, debits...)
	}
}

// Promise 14: scores follow from the evidence, not from its order.
func TestScoresFollowFromTheEvidenceNotFromItsOrder(t *testing.T) {
	r := rand.New(rand.NewSource(145))
	for n := range 1000 {
		e := drawnEvidence(r)
		hands := 1 + n%impl.MaxHandsIn
		for faults := range mostFaulty + 1 {
			followAlike(t, hands, faults, e, e.backwards())
			followAlike(t, hands, faults, e, evidence{done: inAnotherOrder(r, e.done), l: inAnotherOrder(r, e.l)})
			for range 3 {
				followAlike(t, hands, faults, e, e.otherwise(r))
			}
		}
	}
}

// All orders of six statements beside those of four claims: two witnesses agree,
// one contradicts itself, and one speaks of another claim.
func TestScoresInAllOrders(t *testing.T) {
	c, o := impl.Claim{Hand: 1, Letter: 2}, impl.Claim{Hand: 0, Letter: 2}
	l := []impl.Statement{stated(0, c, true), stated(1, c, true), stated(2, c, true), stated(2, c, false), stated(3, o, true), stated(0, c, true)}
	done := []impl.Claim{c, o, {Hand: 1, Letter: 3}, {Hand: 1, Letter: 3}}
	want := [][]impl.Tally{talliesOf([2]int{0, 1}, [2]int{1, 1}), talliesOf([2]int{1, 0}, [2]int{1, 1}), talliesOf([2]int{1, 0}, [2]int{2, 0})}
	for stating := range eachOrderOf(len(l)) {
		var e evidence
		for _, at := range stating {
			e.l = append(e.l, l[at])
		}
		for carrying := range eachOrderOf(len(done)) {
			e.done = nil
			for _, at := range carrying {
				e.done = append(e.done, done[at])
			}
			for faults := range mostFaulty + 1 {
				areTallied(t, faults, e, want[faults]...)
			}
		}
	}
}

// Evidence that was run: hands that took all stand ahead of those that did not,
// whatever as many liars as faults say.
func TestHonestHandsStandAhead(t *testing.T) {
	for _, witnesses := range honestPatterns() {
		for faults := range mostFaulty + 1 {
			liars := len(witnesses) - countTrue(witnesses)
			if liars > faults || countTrue(witnesses) <= faults {
				continue
			}
			var e evidence
			for hand := range 4 {
				c := impl.Claim{Hand: hand, Letter: 9}
				l, _ := impl.RunClaim(hand%2 == 1, witnesses, c)
				e.l = append(e.l, l...)
				e.done = append(e.done, c)
			}
			areTallied(t, faults, e, talliesOf([2]int{0, 1}, [2]int{1, 0}, [2]int{0, 1}, [2]int{1, 0})...)
			l, _ := impl.TallyOf(4, faults, e.done, e.l)
			areRanked(t, l, 1, 3, 0, 2)
			areWays(t, l, 2, []int{1, 0}, []int{3, 2})
		}
	}
}
