package tests

import (
	"math/rand"
	"slices"
	"testing"

	"loop.example/g00549/impl"
)

// scored is what a function of chapter 14 tells, whichever it is.
type scored struct {
	tallies []impl.Tally
	claims  []impl.Claim
	nums    []int
	ways    [][]int
	n       int
	ok      bool
}

// scoreCall is one call of a function of chapter 14; n is how many hands there
// are, one of them, or how long a way is.
type scoreCall struct {
	name   string
	a      []impl.Tally
	b      []impl.Tally
	done   []impl.Claim
	l      []impl.Statement
	t      impl.Tally
	n      int
	faults int
}

func (c scoreCall) run() scored {
	var out scored
	switch c.name {
	case "TallyOf":
		out.tallies, out.ok = impl.TallyOf(c.n, c.faults, c.done, c.l)
	case "ScoreOf":
		out.n, out.ok = impl.ScoreOf(c.t)
	case "RankHands":
		out.nums, out.ok = impl.RankHands(c.a)
	case "WaysOf":
		out.ways, out.ok = impl.WaysOf(c.a, c.n)
	case "GoodTallies":
		out.ok = impl.GoodTallies(c.a)
	case "AddTallies":
		out.tallies, out.ok = impl.AddTallies(c.a, c.b)
	case "DebitsFor":
		out.claims, out.ok = impl.DebitsFor(c.faults, c.l, c.n)
	}
	return out
}

func (c scoreCall) isLong() bool {
	return max(len(c.a), len(c.b), len(c.done), len(c.l)) > 200
}

func (x scored) isAlike(y scored) bool {
	return slices.Equal(x.tallies, y.tallies) && slices.Equal(x.claims, y.claims) && slices.Equal(x.nums, y.nums) && slices.EqualFunc(x.ways, y.ways, slices.Equal[[]int]) && x.n == y.n && x.ok == y.ok
}

func isRefusedScore(t *testing.T, c scoreCall) {
	t.Helper()
	if got := c.run(); !got.isAlike(scored{}) {
		if c.isLong() {
			c = scoreCall{name: c.name + " of very many"}
		}
		t.Fatalf("%+v: %+v", c, got)
	}
}

func TestWrongTalliesGetNoScore(t *testing.T) {
	for _, one := range wrongTallies() {
		isRefusedScore(t, scoreCall{name: "ScoreOf", t: one})
	}
}

func TestWrongTalliesGetTheZeroAnswer(t *testing.T) {
	for _, l := range wrongTallyLists() {
		isRefusedScore(t, scoreCall{name: "GoodTallies", a: l})
		isRefusedScore(t, scoreCall{name: "RankHands", a: l})
		for long := -1; long <= mostWayLong+1; long++ {
			isRefusedScore(t, scoreCall{name: "WaysOf", a: l, n: long})
		}
		for _, other := range [][]impl.Tally{nil, l, alikeTallies(min(max(len(l), 1), impl.MaxHandsIn), 0, 0)} {
			isRefusedScore(t, scoreCall{name: "AddTallies", a: l, b: other})
			isRefusedScore(t, scoreCall{name: "AddTallies", a: other, b: l})
		}
	}
}

// Two wrongs that would make a right one.
func TestWrongTalliesDoNotMakeUpForEachOther(t *testing.T) {
	for hands := 1; hands <= impl.MaxHandsIn; hands++ {
		for at := range hands {
			for _, by := range []int{1, 2, 90, mostCounted} {
				a, b := alikeTallies(hands, 1, 1), alikeTallies(hands, by+1, by+1)
				a[at].Good = -by
				isRefusedScore(t, scoreCall{name: "AddTallies", a: a, b: b})
				isRefusedScore(t, scoreCall{name: "AddTallies", a: b, b: a})
				a[at].Good, a[at].Bad = 1, -by
				isRefusedScore(t, scoreCall{name: "AddTallies", a: a, b: b})
				isRefusedScore(t, scoreCall{name: "AddTallies", a: b, b: a})
			}
		}
	}
}

func TestWrongLongsMakeNoWays(t *testing.T) {
	for _, l := range someTallies() {
		for _, long := range wrongLongs() {
			isRefusedScore(t, scoreCall{name: "WaysOf", a: l, n: long})
		}
	}
}

func TestWrongFaultsAndHandsTellNoDebits(t *testing.T) {
	for _, l := range [][]impl.Statement{nil, {}, {stated(0, impl.Claim{Hand: 1}, true)}, unlikeStatements(20), unlikeStatements(mostStated)} {
		for _, faults := range wrongFaults() {
			for _, hand := range append(wrongAccused(), 0, 1, mostAccused) {
				isRefusedScore(t, scoreCall{name: "DebitsFor", faults: faults, l: l, n: hand})
			}
		}
		for _, hand := range wrongAccused() {
			for faults := range mostFaulty + 1 {
				isRefusedScore(t, scoreCall{name: "DebitsFor", faults: faults, l: l, n: hand})
			}
		}
	}
}

func TestWrongStatementsMakeNoScores(t *testing.T) {
	for _, l := range wrongStatementLists() {
		for faults := range mostFaulty + 1 {
			for _, hand := range []int{0, 1, 3, mostAccused} {
				isRefusedScore(t, scoreCall{name: "DebitsFor", faults: faults, l: l, n: hand})
			}
			for _, hands := range []int{1, 2, impl.MaxHandsIn} {
				isRefusedScore(t, scoreCall{name: "TallyOf", faults: faults, l: l, n: hands})
				isRefusedScore(t, scoreCall{name: "TallyOf", faults: faults, l: l, n: hands, done: []impl.Claim{{Hand: 1, Letter: 2}}})
			}
		}
	}
}

func TestWrongClaimsDoneMakeNoScores(t *testing.T) {
	for _, done := range wrongDone() {
		for faults := range mostFaulty + 1 {
			for _, hands := range []int{1, 2, impl.MaxHandsIn} {
				isRefusedScore(t, scoreCall{name: "TallyOf", faults: faults, done: done, n: hands})
				isRefusedScore(t, scoreCall{name: "TallyOf", faults: faults, done: done, n: hands, l: unlikeStatements(20)})
			}
		}
	}
}

func TestWrongNumbersMakeNoTallies(t *testing.T) {
	r := rand.New(rand.NewSource(1410))
	for _, e := range []evidence{{}, {done: make([]impl.Claim, mostCarried), l: make([]impl.Statement, mostStated)}, drawnEvidence(r), drawnEvidence(r)} {
		for _, hands := range wrongManyHands() {
			for faults := -1; faults <= mostFaulty+1; faults++ {
				isRefusedScore(t, scoreCall{name: "TallyOf", n: hands, faults: faults, done: e.done, l: e.l})
			}
		}
		for _, faults := range wrongFaults() {
			for hands := 1; hands <= impl.MaxHandsIn; hands++ {
				isRefusedScore(t, scoreCall{name: "TallyOf", n: hands, faults: faults, done: e.done, l: e.l})
			}
		}
	}
}

// The most are taken, one more is not, of claims done and of statements.
func TestEvidenceUpToTheMost(t *testing.T) {
	for many := range 2 * mostStated {
		is := many <= mostStated
		done, l := make([]impl.Claim, many), unlikeStatements(many)
		_, okDone := impl.TallyOf(3, 1, done, nil)
		_, okStated := impl.TallyOf(3, 1, nil, l)
		_, okBoth := impl.TallyOf(3, 1, done, l)
		_, okDebits := impl.DebitsFor(1, l, 0)
		if okDone != is || okStated != is || okBoth != is || okDebits != is {
			t.Errorf("%d: %v, %v, %v, %v", many, okDone, okStated, okBoth, okDebits)
		}
	}
}

func TestEachFaultsAndHand(t *testing.T) {
	l := []impl.Statement{stated(0, impl.Claim{Hand: 1}, true)}
	for faults := -3; faults <= mostFaulty+3; faults++ {
		for n := -3; n <= mostAccused+3; n++ {
			_, okTallies := impl.TallyOf(n, faults, nil, l)
			_, okDebits := impl.DebitsFor(faults, l, n)
			isFaulty := faults >= 0 && faults <= mostFaulty
			if okTallies != (isFaulty && n >= 1 && n <= impl.MaxHandsIn) || okDebits != (isFaulty && n >= 0 && n <= mostAccused) {
				t.Errorf("faults %d, %d: %v, %v", faults, n, okTallies, okDebits)
			}
		}
	}
}

// anyScoreCalls are calls of each function, good ones and others.
func anyScoreCalls() []scoreCall {
	r := rand.New(rand.NewSource(1411))
	var out []scoreCall
	wrong := slices.DeleteFunc(wrongTallyLists(), func([]impl.Tally) bool { return r.Intn(20) > 0 })
	for _, a := range append(someTallies(), wrong...) {
		out = append(out, scoreCall{name: "GoodTallies", a: a}, scoreCall{name: "RankHands", a: a}, scoreCall{name: "AddTallies", a: a, b: a})
		for long := range mostWayLong + 2 {
			out = append(out, scoreCall{name: "WaysOf", a: a, n: long})
		}
		b := drawnTallies(r, 1+r.Intn(impl.MaxHandsIn))
		out = append(out, scoreCall{name: "AddTallies", a: a, b: b}, scoreCall{name: "AddTallies", a: b, b: a})
		b = alikeTallies(len(a), 1, 2)
		out = append(out, scoreCall{name: "AddTallies", a: a, b: b}, scoreCall{name: "AddTallies", a: b, b: a})
	}
	cases := []evidence{{}, {done: []impl.Claim{}, l: []impl.Statement{}}, {done: make([]impl.Claim, mostCarried), l: make([]impl.Statement, mostStated)}}
	for n := range 60 {
		cases = append(cases, drawnEvidence(r), evidence{done: wrongDone()[9*n], l: drawnEvidence(r).l}, evidence{done: drawnEvidence(r).done, l: wrongStatementLists()[5*n]})
	}
	for i, e := range cases {
		for faults := -1; faults <= mostFaulty+1; faults++ {
			for _, hand := range []int{-1, 0, i % 4, mostAccused, mostAccused + 1} {
				out = append(out, scoreCall{name: "DebitsFor", faults: faults, l: e.l, n: hand})
			}
			for _, hands := range []int{0, 1, 4, impl.MaxHandsIn, impl.MaxHandsIn + 1} {
				out = append(out, scoreCall{name: "TallyOf", faults: faults, done: e.done, l: e.l, n: hands})
			}
		}
	}
	for _, one := range append(wrongTallies()[:20], impl.Tally{}, impl.Tally{Hand: 11, Good: 100, Bad: 3}) {
		out = append(out, scoreCall{name: "ScoreOf", t: one})
	}
	return slices.DeleteFunc(out, scoreCall.isLong)
}

// withRoomBehind is c with other memory behind each of its lists, that would
// change the answer if it were read, and all of that memory.
func (c scoreCall) withRoomBehind() (scoreCall, scoreCall) {
	held := c
	c.a, held.a = withRoom(c.a, impl.Tally{Hand: len(c.a), Good: 50, Bad: 1})
	c.b, held.b = withRoom(c.b, impl.Tally{Hand: len(c.b), Good: 1, Bad: 50})
	c.done, held.done = withRoom(c.done, impl.Claim{Hand: 0, Letter: 17, Epoch: 17})
	c.l, held.l = withRoom(c.l, stated(6, impl.Claim{Hand: 0, Letter: 18, Epoch: 18}, true))
	return c, held
}

func (c scoreCall) clone() scoreCall {
	c.a, c.b, c.done, c.l = slices.Clone(c.a), slices.Clone(c.b), slices.Clone(c.done), slices.Clone(c.l)
	return c
}

func (c scoreCall) isKept(was scoreCall) bool {
	return slices.Equal(c.a, was.a) && slices.Equal(c.b, was.b) && slices.Equal(c.done, was.done) && slices.Equal(c.l, was.l)
}

func (x scored) handsOutBehind() bool {
	behind := x.ways[len(x.ways):cap(x.ways)]
	return !isBehindZero(x.tallies) || !isBehindZero(x.claims) || !isBehindZero(x.nums) || slices.ContainsFunc(behind, func(l []int) bool { return l != nil }) || slices.ContainsFunc(x.ways, func(l []int) bool { return !isBehindZero(l) })
}

func (x scored) scribble() {
	scribbleOver(x.tallies, func(impl.Tally) impl.Tally { return impl.Tally{Hand: 77, Good: 77, Bad: 77} })
	scribbleOver(x.claims, func(impl.Claim) impl.Claim { return impl.Claim{Hand: 77, Letter: 77, Epoch: 77} })
	for _, l := range append([][]int{x.nums}, x.ways...) {
		scribbleOver(l, func(n int) int { return n + 77 })
	}
	scribbleOver(x.ways, func([]int) []int { return []int{77} })
}

func TestScoresNeitherWriteNorShare(t *testing.T) {
	for _, c := range anyScoreCalls() {
		given, held := c.withRoomBehind()
		was := held.clone()
		got := given.run()
		if !held.isKept(was) {
			t.Fatalf("%+v writes into an argument", c)
		}
		if !got.isAlike(c.run()) {
			t.Fatalf("%+v hangs on what lies behind the lists", c)
		}
		if got.handsOutBehind() {
			t.Fatalf("%+v hands out what lies behind", c)
		}
		got.scribble()
		if !held.isKept(was) {
			t.Fatalf("%+v shares memory with an argument", c)
		}
		if !given.run().isAlike(c.run()) {
			t.Fatalf("%+v is another one the second time", c)
		}
	}
}

func TestWaysOfOneAnswerShareNothing(t *testing.T) {
	for _, l := range someTallies() {
		for long := 1; long <= mostWayLong; long++ {
			if ways, _ := impl.WaysOf(l, long); shareMemory(ways) {
				t.Fatalf("WaysOf(%+v, %d): two ways share memory", l, long)
			}
		}
	}
}

// One memory for both tallies that are added, or for all of an argument's lists.
func TestSumsOfOneMemory(t *testing.T) {
	for _, l := range someTallies() {
		was := slices.Clone(l)
		want := addedThere(l, l)
		got, ok := impl.AddTallies(l, l)
		if is := areTalliesThere(want); ok != is || is && !slices.Equal(got, want) {
			t.Fatalf("AddTallies(%+v, the same): %+v, %v", l, got, ok)
		}
		scored{tallies: got}.scribble()
		if !slices.Equal(l, was) {
			t.Fatalf("AddTallies(%+v, the same) writes or shares", was)
		}
		areNotAdded(t, l, l[:len(l)-1])
	}
}

func TestNoListsOfScoresAreTheNilOnes(t *testing.T) {
	for _, c := range anyScoreCalls() {
		empty := c
		empty.a = append([]impl.Tally{}, c.a...)
		empty.b = append([]impl.Tally{}, c.b...)
		empty.done = append([]impl.Claim{}, c.done...)
		empty.l = append([]impl.Statement{}, c.l...)
		if !empty.run().isAlike(c.run()) {
			t.Fatalf("%+v", c)
		}
	}
}

func TestScoresAnswerTheSameEachTime(t *testing.T) {
	for _, c := range anyScoreCalls() {
		want := c.run()
		for range 3 {
			if got := c.run(); !got.isAlike(want) {
				t.Fatalf("%+v: %+v, then %+v", c, want, got)
			}
		}
	}
}
