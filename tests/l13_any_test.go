package tests

import (
	"math/rand"
	"slices"
	"testing"

	"loop.example/g00549/impl"
)

// boarded is what a function of chapter 13 tells, whichever it is.
type boarded struct {
	b    impl.Board
	did  []bool
	nums []int
	n    int
	m    int
	ok   bool
}

// boardCall is one call of a function of chapter 13; n is how many faults there
// are, or an epoch.
type boardCall struct {
	name  string
	b     impl.Board
	s     impl.BoardStep
	steps []impl.BoardStep
	liars []int
	n     int
	x     int
	y     int
}

func (c boardCall) run() boarded {
	var out boarded
	switch c.name {
	case "NewBoard":
		out.b, out.ok = impl.NewBoard(c.n, c.liars)
	case "GoodBoard":
		out.ok = impl.GoodBoard(c.b)
	case "StepBoard":
		out.b, out.ok = impl.StepBoard(c.b, c.s)
	case "PlayBoard":
		out.b, out.did, out.ok = impl.PlayBoard(c.n, c.liars, c.steps)
	case "QuorumFor":
		out.n, out.m, out.ok = impl.QuorumFor(c.n)
	case "CertifiedIn":
		out.nums, out.ok = impl.CertifiedIn(c.b, c.n)
	case "CommonHonest":
		out.nums, out.ok = impl.CommonHonest(c.b, c.n, c.x, c.y)
	}
	return out
}

func (c boardCall) isLong() bool {
	return max(len(c.b.Signed), len(c.b.Liars), len(c.b.Lists), len(c.steps), len(c.liars)) > 2*mostSigned
}

func (x boarded) isAlike(y boarded) bool {
	return alikeBoards(x.b, y.b) && slices.Equal(x.did, y.did) && slices.Equal(x.nums, y.nums) && x.n == y.n && x.m == y.m && x.ok == y.ok
}

func isRefusedBoard(t *testing.T, c boardCall) {
	t.Helper()
	if got := c.run(); !got.isAlike(boarded{}) {
		if c.isLong() {
			c = boardCall{name: c.name + " of very many"}
		}
		t.Fatalf("%+v: %+v", c, got)
	}
}

func TestWrongFaultsMakeNoBoard(t *testing.T) {
	for _, faults := range wrongFaults() {
		isRefusedBoard(t, boardCall{name: "QuorumFor", n: faults})
		for _, liars := range append(liarsFor(mostFaulty), wrongLiarsFor(mostFaulty)...) {
			isRefusedBoard(t, boardCall{name: "NewBoard", n: faults, liars: liars})
			isRefusedBoard(t, boardCall{name: "PlayBoard", n: faults, liars: liars})
			isRefusedBoard(t, boardCall{name: "PlayBoard", n: faults, liars: liars, steps: []impl.BoardStep{proposing(1), nextEpoch}})
		}
	}
}

func TestWrongLiarsMakeNoBoard(t *testing.T) {
	r := rand.New(rand.NewSource(1310))
	for faults := range mostFaulty + 1 {
		for _, liars := range wrongLiarsFor(faults) {
			isRefusedBoard(t, boardCall{name: "NewBoard", n: faults, liars: liars})
			for _, many := range []int{0, 1, 10, impl.MaxBoardSteps, impl.MaxBoardSteps + 1} {
				isRefusedBoard(t, boardCall{name: "PlayBoard", n: faults, liars: liars, steps: drawnBoardSteps(r, faults, many)})
			}
		}
	}
}

// As many steps as may be are played, and one more is not, whatever it is.
func TestTheMostBoardSteps(t *testing.T) {
	r := rand.New(rand.NewSource(1311))
	for faults := range mostFaulty + 1 {
		for _, steps := range tooManyBoardSteps() {
			isRefusedBoard(t, boardCall{name: "PlayBoard", n: faults, steps: steps})
		}
		for _, s := range eachBoardStep() {
			steps := drawnBoardSteps(r, faults, impl.MaxBoardSteps-1)
			steps = append(steps, s)
			want, did := playedThere(faults, nil, steps)
			isBoardPlayed(t, faults, nil, steps, want, did)
			isRefusedBoard(t, boardCall{name: "PlayBoard", n: faults, steps: append(steps, s)})
		}
	}
}

func TestWrongBoardsGetTheZeroAnswer(t *testing.T) {
	steps := []impl.BoardStep{nextEpoch, proposing(0), proposing(5), proposing(9), signing(0, 3), signing(0, 7), signing(3, 2), {}, {Kind: 4}, signing(-1, 3)}
	for _, b := range wrongBoards() {
		if isBoardThere(b) {
			t.Fatalf("%+v is good", b)
		}
		isRefusedBoard(t, boardCall{name: "GoodBoard", b: b})
		for _, s := range steps {
			isRefusedBoard(t, boardCall{name: "StepBoard", b: b, s: s})
		}
		for _, epoch := range []int{-1, 0, 4, 5, 20, 21} {
			isRefusedBoard(t, boardCall{name: "CertifiedIn", b: b, n: epoch})
			isRefusedBoard(t, boardCall{name: "CommonHonest", b: b, n: epoch, x: 3, y: 3})
			isRefusedBoard(t, boardCall{name: "CommonHonest", b: b, n: epoch, x: 0, y: 9})
		}
	}
}

func TestWrongEpochsAndListsTellNothing(t *testing.T) {
	for _, b := range someBoards() {
		for _, epoch := range wrongBoardEpochs() {
			isRefusedBoard(t, boardCall{name: "CertifiedIn", b: b, n: epoch})
			for _, list := range append(wrongListed(), 0, 3, mostListed) {
				isRefusedBoard(t, boardCall{name: "CommonHonest", b: b, n: epoch, x: list, y: list})
				isRefusedBoard(t, boardCall{name: "CommonHonest", b: b, n: epoch, x: 3, y: list})
			}
		}
		for _, epoch := range []int{0, 3, mostBoardEpoch} {
			for _, list := range wrongListed() {
				isRefusedBoard(t, boardCall{name: "CommonHonest", b: b, n: epoch, x: list, y: list})
				for _, other := range []int{0, 3, mostListed} {
					isRefusedBoard(t, boardCall{name: "CommonHonest", b: b, n: epoch, x: list, y: other})
					isRefusedBoard(t, boardCall{name: "CommonHonest", b: b, n: epoch, x: other, y: list})
				}
			}
		}
	}
}

// anyBoardCalls are calls of each function, good ones and others.
func anyBoardCalls() []boardCall {
	r := rand.New(rand.NewSource(1312))
	var out []boardCall
	steps := []impl.BoardStep{nextEpoch, {}, {Kind: 4}, {Kind: impl.BdEpoch, List: 1}}
	for list := range mostListed + 1 {
		steps = append(steps, proposing(list), signing(list%3, list), signing(list, 3))
	}
	wrong := slices.DeleteFunc(wrongBoards(), func(impl.Board) bool { return r.Intn(4) > 0 })
	for _, b := range append(someBoards(), wrong...) {
		out = append(out, boardCall{name: "GoodBoard", b: b})
		for _, s := range steps {
			out = append(out, boardCall{name: "StepBoard", b: b, s: s})
		}
		for _, epoch := range []int{-1, 0, 3, 5, 7, mostBoardEpoch, mostBoardEpoch + 1} {
			out = append(out, boardCall{name: "CertifiedIn", b: b, n: epoch}, boardCall{name: "CommonHonest", b: b, n: epoch, x: 3, y: 3}, boardCall{name: "CommonHonest", b: b, n: epoch, x: 9, y: 0})
		}
	}
	for faults := range mostFaulty + 1 {
		for _, liars := range append(liarsFor(faults), wrongLiarsFor(faults)...) {
			out = append(out, boardCall{name: "NewBoard", n: faults, liars: liars}, boardCall{name: "PlayBoard", n: faults, liars: liars})
			for _, many := range []int{1, 5, 20, impl.MaxBoardSteps, impl.MaxBoardSteps + 1} {
				out = append(out, boardCall{name: "PlayBoard", n: faults, liars: liars, steps: drawnBoardSteps(r, faults, many)})
			}
		}
		out = append(out, boardCall{name: "QuorumFor", n: faults}, boardCall{name: "QuorumFor", n: faults - 3})
	}
	return slices.DeleteFunc(out, boardCall.isLong)
}

// withRoomBehind is c with other memory behind each of its lists, those within
// Signed too, and all of that memory.
func (c boardCall) withRoomBehind() (boardCall, boardCall, [][]int) {
	held := c
	var rows, given [][]int
	for _, row := range c.b.Signed {
		short, all := withRoom(row, 1)
		given, rows = append(given, short), append(rows, all)
	}
	c.b.Signed, held.b.Signed = withRoom(given, []int{0, 0, 3})
	c.b.Liars, held.b.Liars = withRoom(c.b.Liars, 3)
	c.b.Lists, held.b.Lists = withRoom(c.b.Lists, 3)
	c.liars, held.liars = withRoom(c.liars, 2)
	c.steps, held.steps = withRoom(c.steps, proposing(8))
	return c, held, rows
}

func (c boardCall) clone() boardCall {
	c.b = cloneBoard(c.b)
	c.liars, c.steps = slices.Clone(c.liars), slices.Clone(c.steps)
	return c
}

func (c boardCall) isKept(was boardCall) bool {
	return alikeBoards(c.b, was.b) && slices.Equal(c.liars, was.liars) && slices.Equal(c.steps, was.steps)
}

// numLists are all lists of numbers in an answer, those within Signed too.
func (x boarded) numLists() [][]int {
	return append([][]int{x.b.Liars, x.b.Lists, x.nums}, x.b.Signed...)
}

func (x boarded) handsOutBehind() bool {
	behind := x.b.Signed[len(x.b.Signed):cap(x.b.Signed)]
	return !isBehindZero(x.did) || slices.ContainsFunc(behind, func(l []int) bool { return l != nil }) || slices.ContainsFunc(x.numLists(), func(l []int) bool { return !isBehindZero(l) })
}

func (x boarded) scribble() {
	for _, l := range x.numLists() {
		scribbleOver(l, func(n int) int { return n + 77 })
	}
	scribbleOver(x.b.Signed, func([]int) []int { return []int{77} })
	scribbleOver(x.did, func(is bool) bool { return !is })
}

func TestBoardsNeitherWriteNorShare(t *testing.T) {
	for _, c := range anyBoardCalls() {
		given, held, rows := c.withRoomBehind()
		was, wereRows := held.clone(), cloneRows(rows)
		isAsItWas := func() bool {
			return held.isKept(was) && slices.EqualFunc(rows, wereRows, slices.Equal[[]int])
		}
		got := given.run()
		if !isAsItWas() {
			t.Fatalf("%+v writes into an argument", c)
		}
		if !got.isAlike(c.run()) {
			t.Fatalf("%+v hangs on what lies behind the lists", c)
		}
		if got.handsOutBehind() {
			t.Fatalf("%+v hands out what lies behind", c)
		}
		got.scribble()
		if !isAsItWas() {
			t.Fatalf("%+v shares memory with an argument", c)
		}
		if !given.run().isAlike(c.run()) {
			t.Fatalf("%+v is another one the second time", c)
		}
	}
}

// shareMemory gives each list a number of its own, up to its end of memory: one
// that has another number then shares memory with the list of that number.
func shareMemory(lists [][]int) bool {
	for at, l := range lists {
		scribbleOver(l, func(int) int { return at })
	}
	for at, l := range lists {
		if slices.ContainsFunc(l[:cap(l)], func(n int) bool { return n != at }) {
			return true
		}
	}
	return false
}

func TestListsOfOneBoardAnswerShareNothing(t *testing.T) {
	for _, c := range anyBoardCalls() {
		if shareMemory(c.run().numLists()) {
			t.Fatalf("%+v: two lists of one answer share memory", c)
		}
	}
}

// One memory for all lists of an argument, and one list for all signatures.
func TestBoardsOfOneMemory(t *testing.T) {
	row := []int{0, 1, 2, 3, 4}
	b := impl.Board{Faults: 2, Liars: row[1:3], Lists: row[:3], Signed: [][]int{row[:3], row[:3], row[1:4]}}
	want := impl.Board{Faults: 2, Liars: []int{1, 2}, Lists: []int{0, 1, 2, 9}, Signed: [][]int{{0, 1, 2}, {0, 1, 2}, {1, 2, 3}}}
	isOnBoard(t, b, proposing(9), want)
	isOnBoard(t, b, signing(5, 2), impl.Board{Faults: 2, Liars: []int{1, 2}, Lists: []int{0, 1, 2}, Signed: [][]int{{0, 1, 2}, {0, 1, 2}, {1, 2, 3}, {0, 5, 2}}})
	for _, s := range []impl.BoardStep{proposing(9), signing(5, 2), nextEpoch} {
		got, ok := impl.StepBoard(b, s)
		if !ok {
			t.Fatal(s)
		}
		first := cloneBoard(got)
		got.Signed[0][0] = 77
		if got.Signed[1][0] != 0 || !slices.Equal(row, []int{0, 1, 2, 3, 4}) {
			t.Fatalf("%+v: %+v, %v", s, got, row)
		}
		got.Signed[0][0] = 0
		boarded{b: got}.scribble()
		if again, _ := impl.StepBoard(b, s); !alikeBoards(again, first) || !slices.Equal(row, []int{0, 1, 2, 3, 4}) {
			t.Fatalf("%+v: %+v, %v", s, again, row)
		}
	}
}

// A board goes on twice, each time on its own.
func TestBoardsThatGoOnTwice(t *testing.T) {
	b, _, _ := impl.PlayBoard(1, []int{3}, []impl.BoardStep{proposing(1), proposing(5), signing(0, 1), signing(3, 1), signing(3, 5)})
	was := cloneBoard(b)
	one, _ := impl.StepBoard(b, signing(1, 1))
	other, _ := impl.StepBoard(b, signing(2, 5))
	low, _ := impl.StepBoard(b, proposing(0))
	high, _ := impl.StepBoard(b, proposing(9))
	if !alikeBoards(b, was) || !slices.Equal(one.Signed[3], []int{0, 1, 1}) || !slices.Equal(other.Signed[3], []int{0, 2, 5}) || !slices.Equal(low.Lists, []int{0, 1, 5}) || !slices.Equal(high.Lists, []int{1, 5, 9}) {
		t.Error(b, one, other, low, high)
	}
	for _, x := range []impl.Board{one, low} {
		boarded{b: x}.scribble()
	}
	if !alikeBoards(b, was) || !slices.Equal(other.Signed[3], []int{0, 2, 5}) || !slices.Equal(high.Lists, []int{1, 5, 9}) || !slices.Equal(high.Liars, []int{3}) {
		t.Error(b, other, high)
	}
}

func TestNoListsOfABoardAreTheNilOnes(t *testing.T) {
	for _, c := range anyBoardCalls() {
		empty := c
		empty.b.Signed = append([][]int{}, c.b.Signed...)
		empty.b.Liars = append([]int{}, c.b.Liars...)
		empty.b.Lists = append([]int{}, c.b.Lists...)
		empty.liars = append([]int{}, c.liars...)
		empty.steps = append([]impl.BoardStep{}, c.steps...)
		if !empty.run().isAlike(c.run()) {
			t.Fatalf("%+v", c)
		}
	}
}

func TestBoardsAnswerTheSameEachTime(t *testing.T) {
	for _, c := range anyBoardCalls() {
		want := c.run()
		for range 2 {
			if got := c.run(); !got.isAlike(want) {
				t.Fatalf("%+v: %+v, then %+v", c, want, got)
			}
		}
	}
}
