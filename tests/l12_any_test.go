package tests

import (
	"math/rand"
	"slices"
	"testing"

	"loop.example/g00549/impl"
)

// witnessed is what a function of chapter 12 tells, whichever it is.
type witnessed struct {
	s      impl.Statement
	l      []impl.Statement
	claims []impl.Claim
	nums   []int
	is     bool
	ok     bool
}

// witnessCall is one call of a function of chapter 12; n is a witness or how
// many faults there are, is whether the hand is honest or whether it refused.
type witnessCall struct {
	name   string
	l      []impl.Statement
	more   []impl.Statement
	honest []bool
	c      impl.Claim
	n      int
	is     bool
}

func (c witnessCall) run() witnessed {
	var out witnessed
	switch c.name {
	case "GoodClaim":
		out.is = impl.GoodClaim(c.c)
	case "StateFor":
		out.s, out.ok = impl.StateFor(c.n, c.c, c.is)
	case "RefusedBy":
		out.nums, out.ok = impl.RefusedBy(c.l, c.c)
	case "IsProved":
		out.is, out.ok = impl.IsProved(c.n, c.l, c.c)
	case "ClaimsIn":
		out.claims, out.ok = impl.ClaimsIn(c.l)
	case "RunClaim":
		out.l, out.ok = impl.RunClaim(c.is, c.honest, c.c)
	case "MergeStatements":
		out.l, out.ok = impl.MergeStatements(c.l, c.more)
	}
	return out
}

func (c witnessCall) isLong() bool {
	return len(c.l) > 200 || len(c.more) > 200 || len(c.honest) > 200
}

func (x witnessed) isAlike(y witnessed) bool {
	return x.s == y.s && slices.Equal(x.l, y.l) && slices.Equal(x.claims, y.claims) && slices.Equal(x.nums, y.nums) && x.is == y.is && x.ok == y.ok
}

func isRefusedWitness(t *testing.T, c witnessCall) {
	t.Helper()
	if got := c.run(); !got.isAlike(witnessed{}) {
		if c.isLong() {
			c = witnessCall{name: c.name + " of very many"}
		}
		t.Fatalf("%+v: %+v", c, got)
	}
}

func TestWrongClaimsAreNotGood(t *testing.T) {
	for _, c := range wrongClaims() {
		isRefusedWitness(t, witnessCall{name: "GoodClaim", c: c})
		for witness := range impl.MaxWitnesses {
			isRefusedWitness(t, witnessCall{name: "StateFor", n: witness, c: c, is: true})
			isRefusedWitness(t, witnessCall{name: "StateFor", n: witness, c: c})
		}
	}
}

func TestWrongWitnessesStateNothing(t *testing.T) {
	for _, witness := range wrongWitnesses() {
		for _, c := range append(someClaims(), wrongClaims()...) {
			isRefusedWitness(t, witnessCall{name: "StateFor", n: witness, c: c, is: true})
			isRefusedWitness(t, witnessCall{name: "StateFor", n: witness, c: c})
		}
	}
}

func TestWrongStatementsTellNothing(t *testing.T) {
	for _, l := range wrongStatementLists() {
		isRefusedWitness(t, witnessCall{name: "ClaimsIn", l: l})
		for _, c := range []impl.Claim{{}, {Hand: 1, Letter: 2}, {Hand: 3, Letter: 9}, {Hand: -1}, l[0].What} {
			isRefusedWitness(t, witnessCall{name: "RefusedBy", l: l, c: c})
			for faults := -1; faults <= mostFaulty+1; faults++ {
				isRefusedWitness(t, witnessCall{name: "IsProved", l: l, c: c, n: faults})
			}
		}
	}
}

func TestWrongStatementsAreNotMerged(t *testing.T) {
	right := unlikeStatements(5)
	for _, l := range wrongStatementLists() {
		for _, other := range [][]impl.Statement{nil, right, l, l[:1]} {
			isRefusedWitness(t, witnessCall{name: "MergeStatements", l: l, more: other})
			isRefusedWitness(t, witnessCall{name: "MergeStatements", l: other, more: l})
		}
	}
}

// A claim that is not good, with statements that would be of it.
func TestWrongClaimsAreNotProved(t *testing.T) {
	for _, c := range wrongClaims() {
		for _, l := range [][]impl.Statement{nil, {}, unlikeStatements(20), {stated(0, c, true)}, {stated(0, c, true), stated(1, c, true), stated(2, c, true)}} {
			isRefusedWitness(t, witnessCall{name: "RefusedBy", l: l, c: c})
			for faults := -1; faults <= mostFaulty+1; faults++ {
				isRefusedWitness(t, witnessCall{name: "IsProved", l: l, c: c, n: faults})
			}
		}
		for _, witnesses := range [][]bool{nil, {}, {true}, {false, true}, make([]bool, impl.MaxWitnesses)} {
			isRefusedWitness(t, witnessCall{name: "RunClaim", honest: witnesses, c: c})
			isRefusedWitness(t, witnessCall{name: "RunClaim", honest: witnesses, c: c, is: true})
		}
	}
}

func TestWrongFaultsProveNothing(t *testing.T) {
	for _, faults := range wrongFaults() {
		for _, c := range someClaims() {
			for _, honest := range []bool{false, true} {
				for _, witnesses := range [][]bool{nil, {true}, make([]bool, impl.MaxWitnesses), slices.Repeat([]bool{true}, impl.MaxWitnesses)} {
					isRefusedWitness(t, witnessCall{name: "IsProved", l: ranClaimThere(honest, witnesses, c), c: c, n: faults})
				}
			}
		}
	}
}

func TestTooManyWitnessesAreNotRun(t *testing.T) {
	for _, witnesses := range tooManyWitnesses() {
		for _, c := range append(someClaims(), wrongClaims()...) {
			isRefusedWitness(t, witnessCall{name: "RunClaim", honest: witnesses, c: c})
			isRefusedWitness(t, witnessCall{name: "RunClaim", honest: witnesses, c: c, is: true})
		}
	}
}

// The longest list is taken, one more is not, whatever is in it.
func TestStatementsUpToTheMost(t *testing.T) {
	for many := range 2 * mostStated {
		is := many <= mostStated
		for _, l := range [][]impl.Statement{make([]impl.Statement, many), unlikeStatements(many)} {
			_, okRefused := impl.RefusedBy(l, impl.Claim{})
			_, okProved := impl.IsProved(0, l, impl.Claim{})
			_, okClaims := impl.ClaimsIn(l)
			_, okFirst := impl.MergeStatements(l, nil)
			_, okSecond := impl.MergeStatements(nil, l)
			if okRefused != is || okProved != is || okClaims != is || okFirst != is || okSecond != is {
				t.Errorf("%d statements: %v, %v, %v, %v, %v", many, okRefused, okProved, okClaims, okFirst, okSecond)
			}
		}
	}
}

// anyWitnessCalls are calls of each function, good ones and others.
func anyWitnessCalls() []witnessCall {
	r := rand.New(rand.NewSource(1212))
	var out []witnessCall
	lists := [][]impl.Statement{nil, {}, unlikeStatements(1), unlikeStatements(14), unlikeStatements(mostStated), make([]impl.Statement, mostStated)}
	for n := range 60 {
		lists = append(lists, drawnStatements(r, someClaims()[:1+n%9], n+1))
	}
	for _, l := range append(lists, wrongStatementLists()[:60]...) {
		out = append(out, witnessCall{name: "ClaimsIn", l: l})
		for _, c := range append(someClaims()[:5], wrongClaims()[0], impl.Claim{Letter: 9}) {
			out = append(out, witnessCall{name: "RefusedBy", l: l, c: c})
			for faults := -1; faults <= mostFaulty+1; faults++ {
				out = append(out, witnessCall{name: "IsProved", l: l, c: c, n: faults})
			}
		}
		for _, other := range lists[:30] {
			out = append(out, witnessCall{name: "MergeStatements", l: l, more: other}, witnessCall{name: "MergeStatements", l: other, more: l})
		}
	}
	for _, witnesses := range append(honestPatterns(), tooManyWitnesses()...) {
		for _, c := range []impl.Claim{{}, {Hand: 1, Letter: 2, Epoch: 3}, {Hand: -1}} {
			out = append(out, witnessCall{name: "RunClaim", honest: witnesses, c: c}, witnessCall{name: "RunClaim", honest: witnesses, c: c, is: true})
		}
	}
	return slices.DeleteFunc(out, witnessCall.isLong)
}

// withRoomBehind is c with other memory behind each of its lists, that would
// change the answer if it were read, and all of that memory.
func (c witnessCall) withRoomBehind(refused bool) (witnessCall, witnessCall) {
	held := c
	c.l, held.l = withRoom(c.l, stated(6, c.c, refused))
	c.more, held.more = withRoom(c.more, stated(5, impl.Claim{Hand: 17, Letter: 17, Epoch: 17}, refused))
	c.honest, held.honest = withRoom(c.honest, refused)
	return c, held
}

func (c witnessCall) clone() witnessCall {
	c.l, c.more, c.honest = slices.Clone(c.l), slices.Clone(c.more), slices.Clone(c.honest)
	return c
}

func (c witnessCall) isKept(was witnessCall) bool {
	return slices.Equal(c.l, was.l) && slices.Equal(c.more, was.more) && slices.Equal(c.honest, was.honest)
}

func isBehindZero[E comparable](l []E) bool {
	var zero E
	return !slices.ContainsFunc(l[len(l):cap(l)], func(e E) bool { return e != zero })
}

func (x witnessed) handsOutBehind() bool {
	return !isBehindZero(x.l) || !isBehindZero(x.claims) || !isBehindZero(x.nums)
}

func (x witnessed) scribble() {
	scribbleOver(x.l, func(impl.Statement) impl.Statement {
		return stated(77, impl.Claim{Hand: 77, Letter: 77, Epoch: 77}, true)
	})
	scribbleOver(x.claims, func(impl.Claim) impl.Claim { return impl.Claim{Hand: 77, Letter: 77, Epoch: 77} })
	scribbleOver(x.nums, func(n int) int { return n + 77 })
}

func TestWitnessesNeitherWriteNorShare(t *testing.T) {
	for i, c := range anyWitnessCalls() {
		given, held := c.withRoomBehind(i%2 == 0)
		was := held.clone()
		got := given.run()
		if !held.isKept(was) {
			t.Fatalf("%+v writes into an argument", c)
		}
		if !got.isAlike(c.run()) {
			t.Fatalf("%+v hangs on what lies behind the lists", c)
		}
		if got.handsOutBehind() {
			t.Fatalf("%+v hands out what lies behind", c)
		}
		got.scribble()
		if !held.isKept(was) {
			t.Fatalf("%+v shares memory with an argument", c)
		}
		if !given.run().isAlike(c.run()) {
			t.Fatalf("%+v is another one the second time", c)
		}
	}
}

// Two lists of one memory, one within the other or overlapping, are merged as
// any others, and the memory is as it was.
func TestMergesOfOneMemory(t *testing.T) {
	r := rand.New(rand.NewSource(1213))
	for many := range mostStated + 1 {
		l := drawnStatements(r, someClaims()[:4], many)
		was := slices.Clone(l)
		from, to := r.Intn(many+1), r.Intn(many+1)
		from, to = min(from, to), max(from, to)
		for _, parts := range [][2][]impl.Statement{{l, l}, {l[:to], l[from:]}, {l[from:], l[:to]}, {l[from:to], l}, {l, l[from:to]}} {
			got, ok := impl.MergeStatements(parts[0], parts[1])
			if want := mergedThere(parts[0], parts[1]); !ok || !slices.Equal(got, want) {
				t.Fatalf("MergeStatements(%+v, %+v): %+v, %v", parts[0], parts[1], got, ok)
			}
			witnessed{l: got}.scribble()
			if !slices.Equal(l, was) {
				t.Fatalf("MergeStatements(%+v, %+v) writes or shares", parts[0], parts[1])
			}
		}
	}
}

func TestWitnessesAnswerTheSameEachTime(t *testing.T) {
	for _, c := range anyWitnessCalls() {
		want := c.run()
		for range 5 {
			if got := c.run(); !got.isAlike(want) {
				t.Fatalf("%+v: %+v, then %+v", c, want, got)
			}
		}
	}
}

func TestNoStatementsAndNoWitnessesAreTheNilOnes(t *testing.T) {
	for _, c := range anyWitnessCalls() {
		empty := c
		empty.l = append([]impl.Statement{}, c.l...)
		empty.more = append([]impl.Statement{}, c.more...)
		empty.honest = append([]bool{}, c.honest...)
		if !empty.run().isAlike(c.run()) {
			t.Fatalf("%+v", c)
		}
	}
}
