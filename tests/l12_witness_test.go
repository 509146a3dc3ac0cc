package tests

import (
	"math/rand"
	"slices"
	"testing"

	"loop.example/g00549/impl"
)

func areRefusedBy(t *testing.T, l []impl.Statement, c impl.Claim, want ...int) {
	t.Helper()
	if got, ok := impl.RefusedBy(l, c); !ok || !slices.Equal(got, want) {
		t.Fatalf("RefusedBy(%+v, %+v): %v, %v, not %v", l, c, got, ok, want)
	}
}

func isToldProved(t *testing.T, faults int, l []impl.Statement, c impl.Claim, want bool) {
	t.Helper()
	if got, ok := impl.IsProved(faults, l, c); !ok || got != want {
		t.Fatalf("IsProved(%d, %+v, %+v): %v, %v, not %v", faults, l, c, got, ok, want)
	}
}

// isWitnessed asks both, with each number of faults.
func isWitnessed(t *testing.T, l []impl.Statement, c impl.Claim, want ...int) {
	t.Helper()
	areRefusedBy(t, l, c, want...)
	for faults := range mostFaulty + 1 {
		isToldProved(t, faults, l, c, len(want) > faults)
	}
}

func areClaims(t *testing.T, l []impl.Statement, want ...impl.Claim) {
	t.Helper()
	if got, ok := impl.ClaimsIn(l); !ok || !slices.Equal(got, want) {
		t.Fatalf("ClaimsIn(%+v): %+v, %v, not %+v", l, got, ok, want)
	}
}

func isRunClaim(t *testing.T, hand bool, witnesses []bool, c impl.Claim, want ...impl.Statement) {
	t.Helper()
	if got, ok := impl.RunClaim(hand, witnesses, c); !ok || !slices.Equal(got, want) {
		t.Fatalf("RunClaim(%v, %v, %+v): %+v, %v, not %+v", hand, witnesses, c, got, ok, want)
	}
}

func isMerged(t *testing.T, a []impl.Statement, b []impl.Statement, want ...impl.Statement) {
	t.Helper()
	if got, ok := impl.MergeStatements(a, b); !ok || !slices.Equal(got, want) {
		t.Fatalf("MergeStatements(%+v, %+v): %+v, %v, not %+v", a, b, got, ok, want)
	}
}

func isNotMerged(t *testing.T, a []impl.Statement, b []impl.Statement) {
	t.Helper()
	if got, ok := impl.MergeStatements(a, b); ok || len(got) > 0 {
		t.Fatalf("MergeStatements of %d and %d: %+v, %v", len(a), len(b), got, ok)
	}
}

func TestWitnessLimits(t *testing.T) {
	if impl.MaxWitnesses != 7 {
		t.Error(impl.MaxWitnesses)
	}
}

// Each thing of a claim at its ends and beyond, beside all ends of the others.
func TestClaimsAtTheirEnds(t *testing.T) {
	for _, hand := range append(wrongAccused(), 0, 1, mostAccused-1, mostAccused) {
		for _, letter := range append(wrongNumbered(), 0, 1, mostNumbered-1, mostNumbered) {
			for _, epoch := range append(wrongClaimEpochs(), 0, 1, mostClaimEpoch-1, mostClaimEpoch) {
				c := impl.Claim{Hand: hand, Letter: letter, Epoch: epoch}
				if got := impl.GoodClaim(c); got != isClaimThere(c) {
					t.Fatalf("GoodClaim(%+v): %v", c, got)
				}
			}
		}
	}
}

func TestEachNumberOfAClaim(t *testing.T) {
	for n := -150; n <= mostNumbered+150; n++ {
		for _, c := range []impl.Claim{{Hand: n}, {Letter: n}, {Epoch: n}, {Hand: n, Letter: 5, Epoch: 6}, {Hand: 4, Letter: n, Epoch: 6}, {Hand: 4, Letter: 5, Epoch: n}} {
			if got := impl.GoodClaim(c); got != isClaimThere(c) {
				t.Errorf("GoodClaim(%+v): %v", c, got)
			}
		}
	}
}

func TestStatementsAreMadeAsSaid(t *testing.T) {
	for _, c := range append(someClaims(), wrongClaims()...) {
		for _, witness := range append(wrongWitnesses(), 0, 1, 2, 3, 4, 5, impl.MaxWitnesses-1) {
			for _, refused := range []bool{false, true} {
				var want impl.Statement
				is := isClaimThere(c) && witness >= 0 && witness < impl.MaxWitnesses
				if is {
					want = stated(witness, c, refused)
				}
				if got, ok := impl.StateFor(witness, c, refused); ok != is || got != want {
					t.Fatalf("StateFor(%d, %+v, %v): %+v, %v", witness, c, refused, got, ok)
				}
			}
		}
	}
}

func TestRunsOfAClaimByHand(t *testing.T) {
	c := impl.Claim{Hand: 1, Letter: 2, Epoch: 3}
	isRunClaim(t, false, nil, c)
	isRunClaim(t, true, []bool{}, c)
	isRunClaim(t, true, []bool{true}, c, impl.Statement{What: c})
	isRunClaim(t, true, []bool{false}, c, impl.Statement{What: c, Refused: true})
	isRunClaim(t, false, []bool{true, false, true}, c, impl.Statement{What: c, Refused: true}, impl.Statement{Witness: 1, What: c}, impl.Statement{Witness: 2, What: c, Refused: true})
	isRunClaim(t, true, []bool{true, false, true}, c, impl.Statement{What: c}, impl.Statement{Witness: 1, What: c, Refused: true}, impl.Statement{Witness: 2, What: c})
	isRunClaim(t, true, []bool{false}, impl.Claim{}, impl.Statement{Refused: true})
}

// Each pattern of witnesses.
func TestRunsOfAClaimAreAsSaid(t *testing.T) {
	for _, witnesses := range honestPatterns() {
		for _, c := range someClaims() {
			for _, hand := range []bool{false, true} {
				isRunClaim(t, hand, witnesses, c, ranClaimThere(hand, witnesses, c)...)
			}
		}
	}
}

// isJustProved holds what is proved against who told the truth.
func isJustProved(t *testing.T, hand bool, witnesses []bool, l []impl.Statement, c impl.Claim) {
	t.Helper()
	honest := countTrue(witnesses)
	liars := len(witnesses) - honest
	for faults := range mostFaulty + 1 {
		proved, ok := impl.IsProved(faults, l, c)
		switch {
		case !ok:
			t.Fatalf("IsProved(%d, %+v, %+v) is refused", faults, l, c)
		case hand && liars <= faults && proved:
			t.Fatalf("an honest hand is proved: %d faults, %v, %+v", faults, witnesses, l)
		case !hand && proved != (honest > faults):
			t.Fatalf("a hand that is not honest: %v with %d faults, %v, %+v", proved, faults, witnesses, l)
		case hand && proved != (liars > faults):
			t.Fatalf("an honest hand: %v with %d faults, %v, %+v", proved, faults, witnesses, l)
		}
	}
}

// isJustProvedHowever has the same statements in other orders, some of them
// twice, beside those of other claims, and merged out of two parts.
func isJustProvedHowever(t *testing.T, r *rand.Rand, hand bool, witnesses []bool, l []impl.Statement, c impl.Claim) {
	t.Helper()
	others := inAnotherOrder(r, otherWords(c))
	twice := slices.Concat(l, someOf(l, r.Intn(1<<len(l))), l[:r.Intn(len(l)+1)])
	beside := slices.Concat(twice, others[:r.Intn(min(len(others), mostStated-len(twice))+1)])
	full := slices.Concat(l, others[:min(len(others), mostStated-len(l))])
	for _, x := range [][]impl.Statement{l, twice, beside, full} {
		isJustProved(t, hand, witnesses, x, c)
		isJustProved(t, hand, witnesses, inAnotherOrder(r, x), c)
		back := slices.Clone(x)
		slices.Reverse(back)
		isJustProved(t, hand, witnesses, back, c)
	}
	mixed := inAnotherOrder(r, beside)
	from, to := r.Intn(len(mixed)+1), r.Intn(len(mixed)+1)
	for _, parts := range [][2][]impl.Statement{{l[:len(l)/2], l[len(l)/2:]}, {l, l}, {twice, l}, {mixed[:max(from, to)], mixed[min(from, to):]}, {mixed[min(from, to):], mixed[:max(from, to)]}} {
		merged, ok := impl.MergeStatements(parts[0], parts[1])
		if !ok {
			t.Fatalf("MergeStatements(%+v, %+v) is refused", parts[0], parts[1])
		}
		isJustProved(t, hand, witnesses, merged, c)
	}
}

// Promise 12.
func TestAnHonestHandIsNeverProvedToHaveRefused(t *testing.T) {
	r := rand.New(rand.NewSource(12))
	for _, witnesses := range honestPatterns() {
		for _, c := range someClaims() {
			for _, hand := range []bool{false, true} {
				l, ok := impl.RunClaim(hand, witnesses, c)
				if !ok || len(l) != len(witnesses) {
					t.Fatalf("RunClaim(%v, %v, %+v): %+v, %v", hand, witnesses, c, l, ok)
				}
				isJustProvedHowever(t, r, hand, witnesses, l, c)
			}
		}
	}
}

// Two claims are run with the same witnesses, one of an honest hand and one of
// another: neither says anything of the other.
func TestTwoClaimsAreProvedApart(t *testing.T) {
	r := rand.New(rand.NewSource(121))
	for _, witnesses := range honestPatterns() {
		for _, c := range someClaims() {
			for _, o := range nextTo(c) {
				refused, _ := impl.RunClaim(false, witnesses, c)
				taken, _ := impl.RunClaim(true, witnesses, o)
				l := inAnotherOrder(r, slices.Concat(refused, taken))
				isJustProved(t, false, witnesses, l, c)
				isJustProved(t, true, witnesses, l, o)
			}
		}
	}
}

func TestRefusalsByHand(t *testing.T) {
	c, o := impl.Claim{Hand: 1, Letter: 2, Epoch: 3}, impl.Claim{Hand: 1, Letter: 2, Epoch: 4}
	isWitnessed(t, nil, c)
	isWitnessed(t, []impl.Statement{}, c)
	isWitnessed(t, []impl.Statement{stated(4, c, false)}, c)
	isWitnessed(t, []impl.Statement{stated(4, c, true)}, c, 4)
	isWitnessed(t, []impl.Statement{stated(4, c, true)}, o)
	isWitnessed(t, []impl.Statement{stated(6, c, true), stated(0, c, true), stated(3, c, true), stated(0, c, true)}, c, 0, 3, 6)
	isWitnessed(t, []impl.Statement{stated(6, c, true), stated(0, c, false), stated(3, c, true)}, c, 3, 6)
	isWitnessed(t, []impl.Statement{stated(6, c, true), stated(0, o, true), stated(3, c, true)}, c, 3, 6)
	isWitnessed(t, []impl.Statement{stated(6, c, true), stated(3, c, true), stated(6, c, false)}, c, 3)
	isWitnessed(t, []impl.Statement{stated(6, c, false), stated(3, c, true), stated(6, c, true), stated(6, c, true)}, c, 3)
	isWitnessed(t, []impl.Statement{stated(6, c, true), stated(3, c, true), stated(6, o, false)}, c, 3, 6)
	isWitnessed(t, make([]impl.Statement, mostStated), impl.Claim{})
	isWitnessed(t, []impl.Statement{{Refused: true}}, impl.Claim{}, 0)
}

// Each witness says nothing, Refused, not, or both: all that they can say
// together.
func TestAllThatWitnessesCanSay(t *testing.T) {
	r := rand.New(rand.NewSource(122))
	c := impl.Claim{Hand: 1, Letter: 2, Epoch: 3}
	for n := range 1 << (2 * impl.MaxWitnesses) {
		var l []impl.Statement
		var want []int
		for witness := range impl.MaxWitnesses {
			said := n >> (2 * witness) & 3
			if said&1 == 1 {
				l = append(l, stated(witness, c, true))
			}
			if said&2 == 2 {
				l = append(l, stated(witness, c, false))
			}
			if said == 1 {
				want = append(want, witness)
			}
		}
		isWitnessed(t, l, c, want...)
		isWitnessed(t, inAnotherOrder(r, l), c, want...)
	}
}

// Who says both says nothing, in whatever order, however often; of two claims
// the two words do not contradict each other.
func TestWhoSaysBothSaysNothing(t *testing.T) {
	r := rand.New(rand.NewSource(123))
	for _, c := range someClaims() {
		for witness := range impl.MaxWitnesses {
			other := (witness + 3) % impl.MaxWitnesses
			yes, no := stated(witness, c, true), stated(witness, c, false)
			isWitnessed(t, []impl.Statement{yes, no}, c)
			isWitnessed(t, []impl.Statement{no, yes}, c)
			for many := 2; many <= 6; many++ {
				for n := range 1 << many {
					l := []impl.Statement{stated(other, c, true)}
					for _, refused := range bitsIn(n, many) {
						l = append(l, stated(witness, c, refused))
					}
					want := []int{other}
					if n == 1<<many-1 {
						want = append(want, witness)
					}
					slices.Sort(want)
					isWitnessed(t, l, c, want...)
				}
			}
			for _, o := range nextTo(c) {
				apart := []impl.Statement{yes, stated(witness, o, false)}
				isWitnessed(t, apart, c, witness)
				isWitnessed(t, apart, o)
				slices.Reverse(apart)
				isWitnessed(t, apart, c, witness)
				isWitnessed(t, apart, o)
			}
			full := append(slices.Repeat([]impl.Statement{yes}, mostStated-1), no)
			isWitnessed(t, full, c)
			isWitnessed(t, inAnotherOrder(r, full), c)
			slices.Reverse(full)
			isWitnessed(t, full, c)
		}
	}
}

// As many statements as may be are looked through to the last one.
func TestTheMostStatements(t *testing.T) {
	c := impl.Claim{Hand: 1, Letter: 2, Epoch: 3}
	for at := range mostStated {
		l := slices.Repeat([]impl.Statement{stated(2, c, true)}, mostStated)
		isWitnessed(t, l, c, 2)
		l[at] = stated(5, c, true)
		isWitnessed(t, l, c, 2, 5)
		l[at] = stated(2, c, false)
		isWitnessed(t, l, c)
		l[at].What.Letter++
		isWitnessed(t, l, c, 2)
		isWitnessed(t, l, l[at].What)
		areClaims(t, l, c, l[at].What)
	}
}

func TestRefusalsAreAsSaid(t *testing.T) {
	r := rand.New(rand.NewSource(124))
	told := map[int]int{}
	for range 20000 {
		c := someClaims()[r.Intn(len(someClaims()))]
		claims := append(nextTo(c)[:r.Intn(4)], c)
		l := drawnStatements(r, claims, r.Intn(mostStated+1)>>r.Intn(4))
		for _, o := range append(nextTo(c), c) {
			want := refusedThere(l, o)
			isWitnessed(t, l, o, want...)
			told[len(want)]++
		}
	}
	for many := range 6 {
		if told[many] < 100 {
			t.Errorf("%d witnesses are told %d times", many, told[many])
		}
	}
}

// A map is ranged over in another order each time; the answer is one.
func TestRefusalsAreToldInOneOrder(t *testing.T) {
	c := impl.Claim{Hand: 1, Letter: 2, Epoch: 3}
	l, _ := impl.RunClaim(false, slices.Repeat([]bool{true}, impl.MaxWitnesses), c)
	some := append(slices.Clone(l), stated(2, c, false), stated(5, c, false))
	for range 2000 {
		areRefusedBy(t, l, c, 0, 1, 2, 3, 4, 5, 6)
		areRefusedBy(t, some, c, 0, 1, 3, 4, 6)
		isToldProved(t, 2, some, c, true)
	}
}

func TestClaimsByHand(t *testing.T) {
	a, b, c, d := impl.Claim{Letter: 1000, Epoch: 100}, impl.Claim{Hand: 1, Letter: 2, Epoch: 100}, impl.Claim{Hand: 1, Letter: 3}, impl.Claim{Hand: 1, Letter: 3, Epoch: 1}
	areClaims(t, nil)
	areClaims(t, []impl.Statement{})
	areClaims(t, make([]impl.Statement, mostStated), impl.Claim{})
	areClaims(t, []impl.Statement{stated(6, c, false)}, c)
	areClaims(t, []impl.Statement{stated(6, c, false), stated(6, c, true), stated(0, c, true)}, c)
	areClaims(t, []impl.Statement{stated(0, d, true), stated(1, c, true), stated(2, b, true), stated(3, a, true)}, a, b, c, d)
	areClaims(t, []impl.Statement{stated(3, c, true), stated(2, a, false), stated(1, d, true), stated(0, b, true), stated(4, a, true)}, a, b, c, d)
}

// Any two claims, both ways round: Hand goes ahead of Letter, that of Epoch.
func TestAnyTwoClaimsInOrder(t *testing.T) {
	var claims []impl.Claim
	for n := range 27 {
		claims = append(claims, impl.Claim{Hand: n / 9, Letter: n / 3 % 3, Epoch: n % 3})
	}
	for i, a := range claims {
		for j, b := range claims {
			switch l := []impl.Statement{stated(1, a, true), stated(0, b, false), stated(2, a, true)}; {
			case i < j:
				areClaims(t, l, a, b)
			case i > j:
				areClaims(t, l, b, a)
			default:
				areClaims(t, l, a)
			}
		}
	}
}

func TestClaimsAreAsSaid(t *testing.T) {
	r := rand.New(rand.NewSource(125))
	for n := range 5000 {
		var claims []impl.Claim
		for range 1 + r.Intn(mostStated) {
			c := drawnClaim(r)
			claims = append(claims, c)
			claims = append(claims, nextTo(c)...)
		}
		l := drawnStatements(r, claims, n%(mostStated+1))
		want := claimsThere(l)
		areClaims(t, l, want...)
		areClaims(t, inAnotherOrder(r, l), want...)
	}
	l := drawnStatements(r, someClaims(), mostStated)
	for i := range l {
		l[i].What = impl.Claim{Hand: mostAccused - i%21, Letter: mostNumbered - i, Epoch: i}
	}
	if want := claimsThere(l); len(want) != mostStated {
		t.Error(want)
	} else {
		areClaims(t, l, want...)
	}
}

func TestMergesByHand(t *testing.T) {
	c := impl.Claim{Hand: 1, Letter: 2}
	x, y, z := stated(0, c, true), stated(0, c, false), stated(1, c, true)
	isMerged(t, nil, nil)
	isMerged(t, []impl.Statement{}, []impl.Statement{})
	isMerged(t, []impl.Statement{z, x}, nil, z, x)
	isMerged(t, nil, []impl.Statement{z, x}, z, x)
	isMerged(t, []impl.Statement{z, x}, []impl.Statement{y}, z, x, y)
	isMerged(t, []impl.Statement{z, x}, []impl.Statement{x, y, z}, z, x, y)
	isMerged(t, []impl.Statement{z, x}, []impl.Statement{x, z}, z, x)
	isMerged(t, []impl.Statement{x, x}, []impl.Statement{x, x}, x, x)
	isMerged(t, []impl.Statement{x, x}, []impl.Statement{y, y}, x, x, y)
	isMerged(t, []impl.Statement{x, y, x}, []impl.Statement{z, x, z, y}, x, y, x, z)
	isMerged(t, nil, []impl.Statement{y, y, x, y}, y, x)
}

// Statements that are unlike in one thing alone are both there.
func TestMergesTellStatementsApart(t *testing.T) {
	for _, c := range someClaims() {
		for witness := range impl.MaxWitnesses {
			s := stated(witness, c, true)
			isMerged(t, []impl.Statement{s}, []impl.Statement{s}, s)
			others := []impl.Statement{stated(witness, c, false), stated((witness+1)%impl.MaxWitnesses, c, true)}
			for _, o := range nextTo(c) {
				others = append(others, stated(witness, o, true))
			}
			for _, other := range others {
				isMerged(t, []impl.Statement{s}, []impl.Statement{other}, s, other)
			}
		}
	}
}

// A sum of 60 and of one more, of unlike ones, of some that are there already,
// and of some twice.
func TestMergesUpToTheMost(t *testing.T) {
	all := unlikeStatements(mostStated + 1)
	most := all[:mostStated]
	for many := range mostStated + 1 {
		isMerged(t, most[:many], most[many:], most...)
		isMerged(t, most[:many], most, most...)
		isMerged(t, most, most[many:], most...)
		if many > 0 {
			isNotMerged(t, most[:many], all[many:])
		}
	}
}

func TestMergesBeyondTheMost(t *testing.T) {
	all := unlikeStatements(2 * mostStated)
	most, last := all[:mostStated], all[mostStated]
	for many := 1; many <= mostStated; many++ {
		isNotMerged(t, all[:many], all[many:][:mostStated])
		isNotMerged(t, most, all[mostStated:][:many])
	}
	isNotMerged(t, most, []impl.Statement{most[0], last})
	same := slices.Repeat([]impl.Statement{most[0]}, mostStated)
	isMerged(t, same, same, same...)
	isNotMerged(t, same, []impl.Statement{last})
	isMerged(t, same[1:], []impl.Statement{last, last, most[0]}, append(slices.Clone(same[1:]), last)...)
	isNotMerged(t, same[1:], []impl.Statement{last, last, most[1]})
	isMerged(t, nil, same, most[0])
	isMerged(t, most[1:], same, append(slices.Clone(most[1:]), most[0])...)
	isMerged(t, []impl.Statement{last}, same, last, most[0])
}

func TestMergesAreAsSaid(t *testing.T) {
	r := rand.New(rand.NewSource(126))
	beyond := 0
	for range 5000 {
		claims := someClaims()[:1+r.Intn(len(someClaims()))]
		a := drawnStatements(r, claims, r.Intn(mostStated+1))
		b := append(drawnStatements(r, claims, r.Intn(mostStated-20)), a[:r.Intn(min(len(a), 20)+1)]...)
		b = inAnotherOrder(r, b)
		want := mergedThere(a, b)
		if len(want) > mostStated {
			beyond++
			isNotMerged(t, a, b)
			continue
		}
		isMerged(t, a, b, want...)
		for _, c := range claims {
			isWitnessed(t, want, c, refusedThere(slices.Concat(b, a), c)...)
		}
	}
	if beyond < 200 || beyond > 4000 {
		t.Error(beyond)
	}
}
