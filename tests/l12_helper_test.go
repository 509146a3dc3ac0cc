package tests

import (
	"math"
	"math/rand"
	"slices"

	"loop.example/g00549/impl"
)

const mostAccused = 20
const mostClaimEpoch = 100
const mostStated = 60
const mostFaulty = 2

func isClaimThere(c impl.Claim) bool {
	return 0 <= c.Hand && c.Hand <= mostAccused && 0 <= c.Letter && c.Letter <= mostNumbered && 0 <= c.Epoch && c.Epoch <= mostClaimEpoch
}

func stated(witness int, c impl.Claim, refused bool) impl.Statement {
	return impl.Statement{Witness: witness, What: c, Refused: refused}
}

// refusedThere asks for each witness whether just these two statements are
// there.
func refusedThere(l []impl.Statement, c impl.Claim) []int {
	var out []int
	for witness := range impl.MaxWitnesses {
		if slices.Contains(l, stated(witness, c, true)) && !slices.Contains(l, stated(witness, c, false)) {
			out = append(out, witness)
		}
	}
	return out
}

// numberOfClaim is one number for each good claim, by Hand, Letter, Epoch.
func numberOfClaim(c impl.Claim) int {
	return (c.Hand*(mostNumbered+1)+c.Letter)*(mostClaimEpoch+1) + c.Epoch
}

func claimOfNumber(n int) impl.Claim {
	letters := n / (mostClaimEpoch + 1)
	return impl.Claim{Hand: letters / (mostNumbered + 1), Letter: letters % (mostNumbered + 1), Epoch: n % (mostClaimEpoch + 1)}
}

func claimsThere(l []impl.Statement) []impl.Claim {
	told := map[int]bool{}
	var numbers []int
	for _, s := range l {
		n := numberOfClaim(s.What)
		if !told[n] {
			told[n] = true
			numbers = append(numbers, n)
		}
	}
	slices.Sort(numbers)
	var out []impl.Claim
	for _, n := range numbers {
		out = append(out, claimOfNumber(n))
	}
	return out
}

func ranClaimThere(hand bool, witnesses []bool, c impl.Claim) []impl.Statement {
	var out []impl.Statement
	for witness, honest := range witnesses {
		refused := !hand
		if !honest {
			refused = hand
		}
		out = append(out, stated(witness, c, refused))
	}
	return out
}

func mergedThere(a []impl.Statement, b []impl.Statement) []impl.Statement {
	there := map[impl.Statement]bool{}
	var out []impl.Statement
	for _, s := range a {
		there[s] = true
		out = append(out, s)
	}
	for _, s := range b {
		if !there[s] {
			there[s] = true
			out = append(out, s)
		}
	}
	return out
}

// someClaims are the edges, and some between.
func someClaims() []impl.Claim {
	var out []impl.Claim
	for _, hand := range []int{0, 1, mostAccused} {
		for _, letter := range []int{0, 2, mostNumbered} {
			for _, epoch := range []int{0, 50, mostClaimEpoch} {
				out = append(out, impl.Claim{Hand: hand, Letter: letter, Epoch: epoch})
			}
		}
	}
	return append(out, impl.Claim{Hand: 7, Letter: 491, Epoch: 3}, impl.Claim{Hand: 19, Letter: mostNumbered - 1, Epoch: 99})
}

// nextTo are the good claims that are unlike c in one thing, by one.
func nextTo(c impl.Claim) []impl.Claim {
	var out []impl.Claim
	for _, by := range []int{-1, 1} {
		for _, o := range []impl.Claim{{Hand: c.Hand + by, Letter: c.Letter, Epoch: c.Epoch}, {Hand: c.Hand, Letter: c.Letter + by, Epoch: c.Epoch}, {Hand: c.Hand, Letter: c.Letter, Epoch: c.Epoch + by}} {
			if isClaimThere(o) {
				out = append(out, o)
			}
		}
	}
	return out
}

func drawnClaim(r *rand.Rand) impl.Claim {
	return impl.Claim{Hand: r.Intn(mostAccused + 1), Letter: r.Intn(mostNumbered + 1), Epoch: r.Intn(mostClaimEpoch + 1)}
}

// drawnStatements are so many, of few claims, so that many are alike or
// contradict each other.
func drawnStatements(r *rand.Rand, claims []impl.Claim, many int) []impl.Statement {
	var out []impl.Statement
	for range many {
		out = append(out, stated(r.Intn(impl.MaxWitnesses), claims[r.Intn(len(claims))], r.Intn(2) == 0))
	}
	return out
}

// unlikeStatements are so many, at most 14 of each claim, no two alike.
func unlikeStatements(many int) []impl.Statement {
	var out []impl.Statement
	for n := range many {
		out = append(out, stated(n%impl.MaxWitnesses, impl.Claim{Hand: n / 14, Letter: 9}, n/impl.MaxWitnesses%2 == 0))
	}
	return out
}

// otherWords are of other claims than c: each witness says both of each claim
// next to it.
func otherWords(c impl.Claim) []impl.Statement {
	var out []impl.Statement
	for _, o := range nextTo(c) {
		for witness := range impl.MaxWitnesses {
			out = append(out, stated(witness, o, true), stated(witness, o, false))
		}
	}
	return out
}

// honestPatterns are all for each number of witnesses.
func honestPatterns() [][]bool {
	var out [][]bool
	for many := range impl.MaxWitnesses + 1 {
		for n := range 1 << many {
			out = append(out, bitsIn(n, many))
		}
	}
	return out
}

func countTrue(l []bool) int {
	many := 0
	for _, is := range l {
		if is {
			many++
		}
	}
	return many
}

func wrongAccused() []int {
	return []int{math.MinInt, math.MinInt + 1, -1 << 32, -mostAccused, -2, -1, mostAccused + 1, mostAccused + 2, 255, 256, 1 << 32, 1<<32 + 3, math.MaxInt - 1, math.MaxInt}
}

func wrongClaimEpochs() []int {
	return []int{math.MinInt, math.MinInt + 1, -1 << 32, -mostClaimEpoch, -2, -1, mostClaimEpoch + 1, mostClaimEpoch + 2, 255, 256, 1 << 32, 1<<32 + 3, math.MaxInt - 1, math.MaxInt}
}

func wrongWitnesses() []int {
	return []int{math.MinInt, math.MinInt + 1, -1 << 32, -impl.MaxWitnesses, -2, -1, impl.MaxWitnesses, impl.MaxWitnesses + 1, 255, 256, 1 << 32, 1<<32 + 3, math.MaxInt - 1, math.MaxInt}
}

func wrongFaults() []int {
	return []int{math.MinInt, math.MinInt + 1, -1 << 32, -mostFaulty, -1, mostFaulty + 1, mostFaulty + 2, 255, 256, 1 << 32, 1<<32 + 1, math.MaxInt - 1, math.MaxInt}
}

// wrongClaims are not good, each by one thing alone.
func wrongClaims() []impl.Claim {
	var out []impl.Claim
	for _, c := range []impl.Claim{{}, {Hand: 1, Letter: 2, Epoch: 3}, {Hand: mostAccused, Letter: mostNumbered, Epoch: mostClaimEpoch}} {
		for _, hand := range wrongAccused() {
			out = append(out, impl.Claim{Hand: hand, Letter: c.Letter, Epoch: c.Epoch})
		}
		for _, letter := range wrongNumbered() {
			out = append(out, impl.Claim{Hand: c.Hand, Letter: letter, Epoch: c.Epoch})
		}
		for _, epoch := range wrongClaimEpochs() {
			out = append(out, impl.Claim{Hand: c.Hand, Letter: c.Letter, Epoch: epoch})
		}
	}
	return out
}

// wrongStatements are not as said, each by one thing alone.
func wrongStatements() []impl.Statement {
	var out []impl.Statement
	for _, witness := range wrongWitnesses() {
		out = append(out, stated(witness, impl.Claim{}, true), stated(witness, impl.Claim{Hand: 1, Letter: 2}, false))
	}
	for i, c := range wrongClaims() {
		out = append(out, stated(i%impl.MaxWitnesses, c, i%2 == 0))
	}
	return out
}

// wrongStatementLists have too many, or a wrong one among right ones, at each
// place of a short list and at some of the longest.
func wrongStatementLists() [][]impl.Statement {
	var out [][]impl.Statement
	right := stated(0, impl.Claim{Hand: 1, Letter: 2}, true)
	for _, many := range []int{mostStated + 1, mostStated + 2, 2 * mostStated, 256, 100000} {
		out = append(out, make([]impl.Statement, many), slices.Repeat([]impl.Statement{right}, many))
	}
	out = append(out, unlikeStatements(mostStated+1), unlikeStatements(2*mostStated))
	for _, wrong := range wrongStatements() {
		for _, at := range []int{0, mostStated / 2, mostStated - 1} {
			l := unlikeStatements(mostStated)
			l[at] = wrong
			out = append(out, l)
		}
	}
	return append(out, wrongAmong(right, wrongStatements(), 4)...)
}

func tooManyWitnesses() [][]bool {
	var out [][]bool
	for _, many := range []int{impl.MaxWitnesses + 1, impl.MaxWitnesses + 2, 2 * impl.MaxWitnesses, 256, 100000} {
		out = append(out, make([]bool, many), slices.Repeat([]bool{true}, many), slices.Repeat([]bool{true, false}, many)[:many])
	}
	return out
}
