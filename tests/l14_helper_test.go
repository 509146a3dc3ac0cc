package tests

import (
	"math"
	"math/rand"
	"slices"

	"loop.example/g00549/impl"
)

const mostCounted = 100
const mostCarried = 60
const mostWayLong = 4

// talliesOf are one for each two counts, Good ahead of Bad.
func talliesOf(counts ...[2]int) []impl.Tally {
	var out []impl.Tally
	for hand, both := range counts {
		out = append(out, impl.Tally{Hand: hand, Good: both[0], Bad: both[1]})
	}
	return out
}

func alikeTallies(many int, good int, bad int) []impl.Tally {
	return talliesOf(slices.Repeat([][2]int{{good, bad}}, many)...)
}

func isTallyThere(t impl.Tally) bool {
	return 0 <= t.Hand && t.Hand < impl.MaxHandsIn && 0 <= min(t.Good, t.Bad) && max(t.Good, t.Bad) <= mostCounted
}

func areTalliesThere(l []impl.Tally) bool {
	for place, one := range l {
		if one.Hand != place || !isTallyThere(one) {
			return false
		}
	}
	return len(l) > 0
}

// scoreThere goes up as long as a score is not above the share.
func scoreThere(t impl.Tally) int {
	score := 0
	for (score+1)*(t.Good+t.Bad+2) <= 100*(t.Good+1) {
		score++
	}
	return score
}

// rankedThere takes the best of those left, again and again.
func rankedThere(l []impl.Tally) []int {
	var out []int
	for range l {
		best := -1
		for hand, one := range l {
			if !slices.Contains(out, hand) && (best < 0 || scoreThere(one) > scoreThere(l[best])) {
				best = hand
			}
		}
		out = append(out, best)
	}
	return out
}

// waysThere deals the ranked hands out, to one way after the other.
func waysThere(l []impl.Tally, long int) [][]int {
	out := make([][]int, len(l)/long)
	for i, hand := range rankedThere(l)[:len(out)*long] {
		out[i%len(out)] = append(out[i%len(out)], hand)
	}
	return out
}

func addedThere(a []impl.Tally, b []impl.Tally) []impl.Tally {
	var out []impl.Tally
	for hand := range a {
		out = append(out, impl.Tally{Hand: hand, Good: a[hand].Good + b[hand].Good, Bad: a[hand].Bad + b[hand].Bad})
	}
	return out
}

func provedThere(faults int, l []impl.Statement) []impl.Claim {
	return slices.DeleteFunc(claimsThere(l), func(c impl.Claim) bool { return len(refusedThere(l, c)) <= faults })
}

func debitsThere(faults int, l []impl.Statement, hand int) []impl.Claim {
	return slices.DeleteFunc(provedThere(faults, l), func(c impl.Claim) bool { return c.Hand != hand })
}

// talliesThere goes once through all claims, of whatever hand, by their numbers.
func talliesThere(hands int, faults int, done []impl.Claim, l []impl.Statement) []impl.Tally {
	out := alikeTallies(max(hands, mostAccused+1), 0, 0)
	told := map[int]bool{}
	for _, c := range provedThere(faults, l) {
		told[numberOfClaim(c)] = true
		out[c.Hand].Bad++
	}
	for _, c := range done {
		if n := numberOfClaim(c); !told[n] {
			told[n] = true
			out[c.Hand].Good++
		}
	}
	return out[:hands]
}

// evidence is what was carried, and what was stated.
type evidence struct {
	done []impl.Claim
	l    []impl.Statement
}

// drawnEvidence is of few claims, so that letters that were carried are stated
// to be refused, too, by many witnesses, some of whom contradict themselves.
func drawnEvidence(r *rand.Rand) evidence {
	hands := []int{1, 3, impl.MaxHandsIn, mostAccused + 1}[r.Intn(4)]
	var claims []impl.Claim
	for range 1 + r.Intn(12) {
		claims = append(claims, impl.Claim{Hand: r.Intn(hands), Letter: r.Intn(3), Epoch: r.Intn(2)})
	}
	var e evidence
	for range r.Intn(mostCarried + 1) {
		e.done = append(e.done, claims[r.Intn(len(claims))])
	}
	e.l = drawnStatements(r, claims, r.Intn(mostStated+1))
	for i := range e.l {
		e.l[i].Refused = e.l[i].Refused || r.Intn(3) > 0
	}
	return e
}

// someTwice has some of l once more, up to most in all, in another order.
func someTwice[E any](r *rand.Rand, l []E, most int) []E {
	out := slices.Clone(l)
	for range r.Intn(most - len(l) + 1) {
		if len(l) > 0 {
			out = append(out, l[r.Intn(len(l))])
		}
	}
	return inAnotherOrder(r, out)
}

// otherwise is the same evidence as it might have come as well.
func (e evidence) otherwise(r *rand.Rand) evidence {
	return evidence{done: someTwice(r, e.done, mostCarried), l: someTwice(r, e.l, mostStated)}
}

func (e evidence) backwards() evidence {
	e = evidence{done: slices.Clone(e.done), l: slices.Clone(e.l)}
	slices.Reverse(e.done)
	slices.Reverse(e.l)
	return e
}

// drawnTallies have few scores, so that some are alike, or any ones.
func drawnTallies(r *rand.Rand, hands int) []impl.Tally {
	most := []int{1, 2, 5, mostCounted}[r.Intn(4)]
	var counts [][2]int
	for range hands {
		counts = append(counts, [2]int{r.Intn(most + 1), r.Intn(most + 1)})
	}
	return talliesOf(counts...)
}

// someTallies are good, of each number of hands: all alike, falling, rising,
// in turn, with unlike counts of one score, and drawn ones.
func someTallies() [][]impl.Tally {
	r := rand.New(rand.NewSource(14))
	var out [][]impl.Tally
	for hands := 1; hands <= impl.MaxHandsIn; hands++ {
		for _, both := range [][2]int{{0, 0}, {mostCounted, 0}, {0, mostCounted}, {mostCounted, mostCounted}, {7, 3}} {
			out = append(out, alikeTallies(hands, both[0], both[1]))
		}
		var falling, rising, turns, even [][2]int
		for hand := range hands {
			falling = append(falling, [2]int{20, hand})
			rising = append(rising, [2]int{hand, 20})
			turns = append(turns, [2]int{hand % 2, 1})
			even = append(even, [2]int{9 * hand, 9 * hand})
		}
		out = append(out, talliesOf(falling...), talliesOf(rising...), talliesOf(turns...), talliesOf(even...))
		for range 8 {
			out = append(out, drawnTallies(r, hands))
		}
	}
	return out
}

func wrongCounted() []int {
	return []int{math.MinInt, math.MinInt + 1, -1 << 32, -mostCounted, -2, -1, mostCounted + 1, mostCounted + 2, 255, 256, 1 << 32, 1<<32 + 3, math.MaxInt - 1, math.MaxInt}
}

// wrongHandsIn are no numbers of hands that are tallied.
func wrongHandsIn() []int {
	return []int{math.MinInt, math.MinInt + 1, -1 << 32, -impl.MaxHandsIn, -2, -1, impl.MaxHandsIn, impl.MaxHandsIn + 1, 255, 256, 1 << 32, 1<<32 + 3, math.MaxInt - 1, math.MaxInt}
}

func wrongManyHands() []int {
	return []int{math.MinInt, math.MinInt + 1, -1 << 32, -impl.MaxHandsIn, -1, 0, impl.MaxHandsIn + 1, impl.MaxHandsIn + 2, mostAccused + 1, 256, 1 << 32, 1<<32 + 3, math.MaxInt - 1, math.MaxInt}
}

func wrongLongs() []int {
	return []int{math.MinInt, math.MinInt + 1, -1 << 32, -mostWayLong, -1, 0, mostWayLong + 1, mostWayLong + 2, impl.MaxHandsIn, impl.MaxHandsIn + 1, 256, 1 << 32, 1<<32 + 3, math.MaxInt - 1, math.MaxInt}
}

// wrongTallies are not good, each by one thing alone.
func wrongTallies() []impl.Tally {
	var out []impl.Tally
	for _, t := range []impl.Tally{{}, {Hand: 1, Good: 2, Bad: 3}, {Hand: impl.MaxHandsIn - 1, Good: mostCounted, Bad: mostCounted}} {
		for _, hand := range wrongHandsIn() {
			out = append(out, impl.Tally{Hand: hand, Good: t.Good, Bad: t.Bad})
		}
		for _, n := range wrongCounted() {
			out = append(out, impl.Tally{Hand: t.Hand, Good: n, Bad: t.Bad}, impl.Tally{Hand: t.Hand, Good: t.Good, Bad: n})
		}
	}
	return out
}

// wrongTallyLists are none, too many, or have a wrong one at each place: one
// with a wrong count, or one that is not of the hand of its place.
func wrongTallyLists() [][]impl.Tally {
	out := [][]impl.Tally{nil, {}}
	for _, many := range []int{impl.MaxHandsIn + 1, impl.MaxHandsIn + 2, 2 * impl.MaxHandsIn, 256, 100000} {
		out = append(out, alikeTallies(many, 1, 1), make([]impl.Tally, many))
	}
	for hands := 1; hands <= impl.MaxHandsIn; hands++ {
		for place := range hands {
			for _, n := range wrongCounted() {
				good, bad := alikeTallies(hands, 3, 4), alikeTallies(hands, 4, 3)
				good[place].Good, bad[place].Bad = n, n
				out = append(out, good, bad)
			}
			for _, hand := range append(wrongHandsIn(), place-1, place+1, 0, hands-1) {
				l := alikeTallies(hands, 3, 4)
				l[place].Hand = hand
				if hand != place {
					out = append(out, l)
				}
			}
		}
		if hands > 1 {
			l := alikeTallies(hands, 3, 4)
			out = append(out, l[1:], slices.Concat(l[1:], l[:1]), slices.Concat(l[hands-1:], l[:hands-1]))
		}
	}
	return out
}

// wrongDone are too many, or have a claim that is not good among good ones.
func wrongDone() [][]impl.Claim {
	right := impl.Claim{Hand: 1, Letter: 2}
	var out [][]impl.Claim
	for _, many := range []int{mostCarried + 1, mostCarried + 2, 2 * mostCarried, 256, 100000} {
		out = append(out, make([]impl.Claim, many), slices.Repeat([]impl.Claim{right}, many))
	}
	for _, wrong := range wrongClaims() {
		for _, at := range []int{0, mostCarried / 2, mostCarried - 1} {
			l := slices.Repeat([]impl.Claim{right}, mostCarried)
			l[at] = wrong
			out = append(out, l)
		}
	}
	return append(out, wrongAmong(right, wrongClaims(), 3)...)
}
