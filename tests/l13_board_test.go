package tests

import (
	"math/rand"
	"slices"
	"testing"

	"loop.example/g00549/impl"
)

func isGoodBoard(t *testing.T, b impl.Board, want bool) {
	t.Helper()
	if got := impl.GoodBoard(b); got != want {
		t.Fatalf("GoodBoard(%+v): %v", b, got)
	}
}

func isOnBoard(t *testing.T, b impl.Board, s impl.BoardStep, want impl.Board) {
	t.Helper()
	if got, ok := impl.StepBoard(b, s); !ok || !alikeBoards(got, want) {
		t.Fatalf("StepBoard(%+v, %+v): %+v, %v, not %+v", b, s, got, ok, want)
	}
}

func isNotOnBoard(t *testing.T, b impl.Board, s impl.BoardStep) {
	t.Helper()
	if got, ok := impl.StepBoard(b, s); ok || !alikeBoards(got, impl.Board{}) {
		t.Fatalf("StepBoard(%+v, %+v): %+v, %v", b, s, got, ok)
	}
}

// isOnBoardAsSaid holds one step against the clerk's.
func isOnBoardAsSaid(t *testing.T, b impl.Board, s impl.BoardStep) bool {
	t.Helper()
	k := clerkOf(b)
	if !k.step(s) {
		isNotOnBoard(t, b, s)
		return false
	}
	isOnBoard(t, b, s, k.board())
	return true
}

func isBoardPlayed(t *testing.T, faults int, liars []int, l []impl.BoardStep, want impl.Board, did []bool) {
	t.Helper()
	if got, was, ok := impl.PlayBoard(faults, liars, l); !ok || !alikeBoards(got, want) || !slices.Equal(was, did) {
		t.Fatalf("PlayBoard(%d, %v, %+v): %+v, %v, %v, not %+v, %v", faults, liars, l, got, was, ok, want, did)
	}
}

func areCertified(t *testing.T, b impl.Board, epoch int, want ...int) {
	t.Helper()
	if got, ok := impl.CertifiedIn(b, epoch); !ok || !slices.Equal(got, want) {
		t.Fatalf("CertifiedIn(%+v, %d): %v, %v, not %v", b, epoch, got, ok, want)
	}
}

func areCommon(t *testing.T, b impl.Board, epoch int, x int, y int, want ...int) {
	t.Helper()
	if got, ok := impl.CommonHonest(b, epoch, x, y); !ok || !slices.Equal(got, want) {
		t.Fatalf("CommonHonest(%+v, %d, %d, %d): %v, %v, not %v", b, epoch, x, y, got, ok, want)
	}
}

// saysOneThing is promise 13 of a board, in each epoch.
func saysOneThing(t *testing.T, b impl.Board) {
	t.Helper()
	isGoodBoard(t, b, true)
	k := clerkOf(b)
	for epoch := range mostBoardEpoch + 1 {
		got, ok := impl.CertifiedIn(b, epoch)
		if !ok || len(got) > 1 || !slices.Equal(got, k.certified(epoch)) {
			t.Fatalf("CertifiedIn(%+v, %d): %v, %v", b, epoch, got, ok)
		}
	}
}

// hasNoTwoFaced asks for each two lists who is honest and has signed both.
func hasNoTwoFaced(t *testing.T, b impl.Board, epoch int) {
	t.Helper()
	k := clerkOf(b)
	for x := range mostListed + 1 {
		for y := range mostListed + 1 {
			if x == y {
				areCommon(t, b, epoch, x, y, k.common(epoch, x, y)...)
			} else {
				areCommon(t, b, epoch, x, y)
			}
		}
	}
}

func TestBoardLimits(t *testing.T) {
	if impl.MaxBoard != 7 || impl.MaxBoardSteps != 60 || impl.BdPropose != 1 || impl.BdSign != 2 || impl.BdEpoch != 3 {
		t.Error(impl.MaxBoard, impl.MaxBoardSteps, impl.BdPropose, impl.BdSign, impl.BdEpoch)
	}
}

func TestQuorums(t *testing.T) {
	for faults := -300; faults <= 300; faults++ {
		members, quorum, ok := impl.QuorumFor(faults)
		switch {
		case faults < 0 || faults > mostFaulty:
			if members != 0 || quorum != 0 || ok {
				t.Errorf("QuorumFor(%d): %d, %d, %v", faults, members, quorum, ok)
			}
		case !ok || members != boardMembers[faults] || quorum != boardQuorums[faults]:
			t.Errorf("QuorumFor(%d): %d, %d, %v", faults, members, quorum, ok)
		}
	}
	if members, _, _ := impl.QuorumFor(mostFaulty); members != impl.MaxBoard {
		t.Error(members)
	}
}

// All liars that may be, and all lists of up to three that are none.
func TestNewBoards(t *testing.T) {
	for faults := range mostFaulty + 1 {
		for _, liars := range liarsFor(faults) {
			got, ok := impl.NewBoard(faults, liars)
			if !ok || !alikeBoards(got, impl.Board{Faults: faults, Liars: liars}) || !impl.GoodBoard(got) {
				t.Fatalf("NewBoard(%d, %v): %+v, %v", faults, liars, got, ok)
			}
		}
		for n := range 10 * 10 * 10 {
			for _, liars := range [][]int{{}, {n%10 - 1}, {n%10 - 1, n/10%10 - 1}, {n%10 - 1, n/10%10 - 1, n/100 - 1}} {
				want := impl.Board{Faults: faults, Liars: liars}
				is := isBoardThere(want)
				if !is {
					want = impl.Board{}
				}
				if got, ok := impl.NewBoard(faults, liars); ok != is || !alikeBoards(got, want) {
					t.Fatalf("NewBoard(%d, %v): %+v, %v", faults, liars, got, ok)
				}
			}
		}
	}
}

func TestBoardsByHand(t *testing.T) {
	b, ok := impl.NewBoard(1, []int{3})
	if !ok {
		t.Fatal(b)
	}
	isNotOnBoard(t, b, signing(0, 4))
	isOnBoard(t, b, proposing(4), impl.Board{Faults: 1, Liars: []int{3}, Lists: []int{4}})
	b.Lists = []int{4}
	isNotOnBoard(t, b, proposing(4))
	isOnBoard(t, b, proposing(9), impl.Board{Faults: 1, Liars: []int{3}, Lists: []int{4, 9}})
	isOnBoard(t, b, proposing(0), impl.Board{Faults: 1, Liars: []int{3}, Lists: []int{0, 4}})
	b.Lists = []int{0, 4}
	isOnBoard(t, b, proposing(2), impl.Board{Faults: 1, Liars: []int{3}, Lists: []int{0, 2, 4}})
	isNotOnBoard(t, b, signing(0, 2))
	isNotOnBoard(t, b, signing(-1, 4))
	isNotOnBoard(t, b, signing(4, 4))
	isOnBoard(t, b, signing(2, 4), impl.Board{Faults: 1, Liars: []int{3}, Lists: []int{0, 4}, Signed: [][]int{{0, 2, 4}}})
	b.Signed = [][]int{{0, 2, 4}}
	isNotOnBoard(t, b, signing(2, 4))
	isNotOnBoard(t, b, signing(2, 0))
	isOnBoard(t, b, signing(3, 0), impl.Board{Faults: 1, Liars: []int{3}, Lists: []int{0, 4}, Signed: [][]int{{0, 2, 4}, {0, 3, 0}}})
	b.Signed = [][]int{{0, 2, 4}, {0, 3, 0}}
	isNotOnBoard(t, b, signing(3, 0))
	isOnBoard(t, b, signing(3, 4), impl.Board{Faults: 1, Liars: []int{3}, Lists: []int{0, 4}, Signed: [][]int{{0, 2, 4}, {0, 3, 0}, {0, 3, 4}}})
	isOnBoard(t, b, signing(1, 0), impl.Board{Faults: 1, Liars: []int{3}, Lists: []int{0, 4}, Signed: [][]int{{0, 2, 4}, {0, 3, 0}, {0, 1, 0}}})
	isOnBoard(t, b, nextEpoch, impl.Board{Faults: 1, Epoch: 1, Liars: []int{3}, Signed: [][]int{{0, 2, 4}, {0, 3, 0}}})
}

// What was signed in another epoch binds nobody in this one.
func TestNextEpochsByHand(t *testing.T) {
	b := impl.Board{Faults: 1, Epoch: 1, Liars: []int{3}, Lists: []int{0, 4}, Signed: [][]int{{0, 2, 4}, {0, 3, 0}}}
	isOnBoard(t, b, signing(2, 0), impl.Board{Faults: 1, Epoch: 1, Liars: []int{3}, Lists: []int{0, 4}, Signed: [][]int{{0, 2, 4}, {0, 3, 0}, {1, 2, 0}}})
	isOnBoard(t, b, signing(2, 4), impl.Board{Faults: 1, Epoch: 1, Liars: []int{3}, Lists: []int{0, 4}, Signed: [][]int{{0, 2, 4}, {0, 3, 0}, {1, 2, 4}}})
	isOnBoard(t, b, signing(3, 0), impl.Board{Faults: 1, Epoch: 1, Liars: []int{3}, Lists: []int{0, 4}, Signed: [][]int{{0, 2, 4}, {0, 3, 0}, {1, 3, 0}}})
	b.Epoch, b.Lists = 19, nil
	isNotOnBoard(t, b, signing(0, 4))
	isOnBoard(t, b, nextEpoch, impl.Board{Faults: 1, Epoch: 20, Liars: []int{3}, Signed: b.Signed})
	b.Lists = risingOrder(10)
	isOnBoard(t, b, nextEpoch, impl.Board{Faults: 1, Epoch: 20, Liars: []int{3}, Signed: b.Signed})
	b.Epoch = 20
	isNotOnBoard(t, b, nextEpoch)
	b.Lists = nil
	isNotOnBoard(t, b, nextEpoch)
	isOnBoard(t, b, proposing(7), impl.Board{Faults: 1, Epoch: 20, Liars: []int{3}, Signed: b.Signed, Lists: []int{7}})
}

func TestRoomForSignatures(t *testing.T) {
	for many := range mostSigned + 1 {
		b := fullBoard(many)
		isGoodBoard(t, b, true)
		for _, s := range []impl.BoardStep{signing(6, 3), signing(0, 9), signing(1, 0)} {
			if isOnBoardAsSaid(t, b, s) != (many < mostSigned) {
				t.Fatalf("%d signed: %+v", many, s)
			}
		}
		isOnBoardAsSaid(t, b, proposing(5))
		b.Epoch = 7
		isOnBoardAsSaid(t, b, nextEpoch)
	}
	b := fullBoard(mostSigned)
	isOnBoard(t, b, proposing(5), impl.Board{Faults: 2, Epoch: 20, Signed: unlikeRows(mostSigned), Liars: []int{0, 1}, Lists: []int{0, 3, 5, 9}})
	b.Epoch = 19
	isOnBoard(t, b, nextEpoch, impl.Board{Faults: 2, Epoch: 20, Signed: unlikeRows(mostSigned), Liars: []int{0, 1}})
}

// All lists that can have been proposed, with each list that comes.
func TestProposalsComeToTheirPlace(t *testing.T) {
	for n := range 1 << (mostListed + 1) {
		lists := someOf(risingOrder(mostListed+1), n)
		b := impl.Board{Faults: 1, Lists: lists, Signed: [][]int{{0, 1, 9}}}
		for list := range mostListed + 1 {
			if done := isOnBoardAsSaid(t, b, proposing(list)); done != (n>>list&1 == 0) {
				t.Fatalf("StepBoard(%+v, %d): %v", b, list, done)
			}
			if done := isOnBoardAsSaid(t, b, signing(2, list)); done != (n>>list&1 == 1) {
				t.Fatalf("StepBoard(%+v, %d): %v", b, list, done)
			}
		}
	}
}

func TestEachStepOnSomeBoards(t *testing.T) {
	done := map[int]int{}
	for _, b := range someBoards() {
		for _, s := range eachBoardStep() {
			if isOnBoardAsSaid(t, b, s) {
				done[s.Kind]++
			}
		}
		for _, s := range neverOnBoards() {
			isNotOnBoard(t, b, s)
		}
		for _, member := range wrongMembersFor(b.Faults) {
			for list := range mostListed + 1 {
				isNotOnBoard(t, b, signing(member, list))
			}
		}
	}
	for _, kind := range []int{impl.BdPropose, impl.BdSign, impl.BdEpoch} {
		if done[kind] < 40 {
			t.Errorf("kind %d is done %d times", kind, done[kind])
		}
	}
}

func TestGoodBoardsByHand(t *testing.T) {
	isGoodBoard(t, impl.Board{}, true)
	isGoodBoard(t, impl.Board{Signed: [][]int{{0, 0, 4}, {1, 0, 5}}}, true)
	isGoodBoard(t, impl.Board{Signed: [][]int{{0, 0, 4}, {0, 0, 5}}}, false)
	isGoodBoard(t, impl.Board{Signed: [][]int{{0, 0, 4}, {1, 0, 5}, {0, 0, 5}}}, false)
	isGoodBoard(t, impl.Board{Signed: [][]int{{0, 0, 4}, {0, 0, 4}}}, true)
	isGoodBoard(t, impl.Board{Signed: [][]int{{0, 1, 4}}}, false)
	isGoodBoard(t, impl.Board{Faults: 1, Signed: [][]int{{0, 1, 4}, {0, 2, 5}}}, true)
	isGoodBoard(t, impl.Board{Faults: 1, Liars: []int{1}, Signed: [][]int{{0, 1, 4}, {0, 1, 5}}}, true)
	isGoodBoard(t, impl.Board{Faults: 1, Liars: []int{2}, Signed: [][]int{{0, 1, 4}, {0, 1, 5}}}, false)
	isGoodBoard(t, impl.Board{Faults: 2, Liars: []int{1, 6}, Signed: [][]int{{20, 6, 0}, {20, 6, 9}, {20, 1, 9}, {20, 1, 0}}}, true)
	isGoodBoard(t, impl.Board{Faults: 2, Liars: []int{6}, Signed: [][]int{{20, 6, 0}, {20, 6, 9}, {20, 1, 9}, {20, 1, 0}}}, false)
	isGoodBoard(t, fullBoard(mostSigned), true)
	isGoodBoard(t, fullBoard(mostSigned+1), false)
}

// Each number of a board at its ends and beyond.
func TestNumbersOfBoards(t *testing.T) {
	for n := -30; n <= 60; n++ {
		for faults := -2; faults <= 5; faults++ {
			for _, b := range []impl.Board{{Faults: n}, {Faults: faults, Epoch: n}, {Faults: faults, Liars: []int{n}}, {Faults: faults, Liars: []int{0, n}}, {Faults: faults, Lists: []int{n}}, {Faults: faults, Lists: []int{4, n}}, {Faults: faults, Lists: []int{n, 4}},
				{Faults: faults, Signed: [][]int{{n, 0, 0}}}, {Faults: faults, Signed: [][]int{{0, n, 0}}}, {Faults: faults, Signed: [][]int{{0, 0, n}}}, {Faults: faults, Signed: [][]int{{0, 0, 0}, {3, n, 3}}}, {Faults: faults, Signed: [][]int{{3, 0, 3}, {3, 0, n}}}} {
				isGoodBoard(t, b, isBoardThere(b))
			}
		}
	}
}

// Each two signatures, of each two members.
func TestAnyTwoSignatures(t *testing.T) {
	for faults := range mostFaulty + 1 {
		for _, liars := range liarsFor(faults) {
			for n := range 3 * 7 * 3 {
				for m := range 3 * 7 * 3 {
					b := impl.Board{Faults: faults, Liars: liars, Signed: [][]int{{n / 21, n % 7, n / 7 % 3}, {m / 21, m % 7, m / 7 % 3}}}
					isGoodBoard(t, b, isBoardThere(b))
				}
			}
		}
	}
}

// Boards of which one thing is changed: about as many good ones as others.
func TestDrawnBoardsAreGoodAsSaid(t *testing.T) {
	r := rand.New(rand.NewSource(131))
	told := map[bool]int{}
	for range 20000 {
		b := cloneBoard(drawnBoard(r))
		switch n := r.Intn(20) - 5; {
		case len(b.Signed) > 0 && r.Intn(2) == 0:
			b.Signed[r.Intn(len(b.Signed))][r.Intn(3)] = n
		case len(b.Lists) > 0 && r.Intn(2) == 0:
			b.Lists[r.Intn(len(b.Lists))] = n
		case len(b.Liars) > 0 && r.Intn(2) == 0:
			b.Liars[r.Intn(len(b.Liars))] = n
		default:
			b.Faults = r.Intn(mostFaulty + 1)
		}
		want := isBoardThere(b)
		told[want]++
		isGoodBoard(t, b, want)
	}
	if told[true] < 2000 || told[false] < 2000 {
		t.Error(told)
	}
}

func TestBoardPlaysByHand(t *testing.T) {
	isBoardPlayed(t, 0, nil, nil, impl.Board{}, nil)
	isBoardPlayed(t, 2, []int{1, 6}, []impl.BoardStep{}, impl.Board{Faults: 2, Liars: []int{1, 6}}, nil)
	isBoardPlayed(t, 0, nil, []impl.BoardStep{signing(0, 3), proposing(3), signing(0, 3), signing(0, 3), nextEpoch, signing(0, 3), proposing(2), signing(0, 2)},
		impl.Board{Epoch: 1, Lists: []int{2}, Signed: [][]int{{0, 0, 3}, {1, 0, 2}}}, []bool{false, true, true, false, true, false, true, true})
	isBoardPlayed(t, 1, []int{0}, []impl.BoardStep{proposing(9), {}, proposing(0), signing(3, 0), signing(0, 9), signing(3, 9), signing(0, 0), signing(0, 0), {Kind: 4}, signing(1, 9)},
		impl.Board{Faults: 1, Liars: []int{0}, Lists: []int{0, 9}, Signed: [][]int{{0, 3, 0}, {0, 0, 9}, {0, 0, 0}, {0, 1, 9}}}, []bool{true, false, true, true, true, false, true, false, false, true})
	isBoardPlayed(t, 0, nil, slices.Repeat([]impl.BoardStep{nextEpoch}, impl.MaxBoardSteps), impl.Board{Epoch: 20}, append(slices.Repeat([]bool{true}, 20), make([]bool, 40)...))
}

// Drawn plays of each length: each board, what was done, and promise 13.
func TestBoardPlaysAreAsSaid(t *testing.T) {
	r := rand.New(rand.NewSource(132))
	certified := 0
	for faults := range mostFaulty + 1 {
		for _, liars := range liarsFor(faults) {
			for many := range impl.MaxBoardSteps + 1 {
				l := drawnBoardSteps(r, faults, many)
				want, did := playedThere(faults, liars, l)
				isBoardPlayed(t, faults, liars, l, want, did)
				saysOneThing(t, want)
				for epoch := range want.Epoch + 1 {
					certified += len(clerkOf(want).certified(epoch))
				}
			}
		}
	}
	if certified < 500 {
		t.Error(certified)
	}
}

// What was not done has changed nothing: the others alone make the same board.
func TestStepsNotDoneLeaveNoTrace(t *testing.T) {
	r := rand.New(rand.NewSource(133))
	never := neverOnBoards()
	for faults := range mostFaulty + 1 {
		for _, liars := range liarsFor(faults) {
			for range 20 {
				l := drawnBoardSteps(r, faults, impl.MaxBoardSteps/2)
				want, did, _ := impl.PlayBoard(faults, liars, l)
				var done, among []impl.BoardStep
				var told []bool
				for i, s := range l {
					if did[i] {
						done = append(done, s)
					}
					among, told = append(among, never[r.Intn(len(never))], s), append(told, false, did[i])
				}
				isBoardPlayed(t, faults, liars, done, want, slices.Repeat([]bool{true}, len(done)))
				isBoardPlayed(t, faults, liars, among, want, told)
			}
		}
	}
}

// oneEpoch are the steps of an epoch with these lists, in which each honest
// member signs the list that it has chosen, and each liar signs all of them.
func oneEpoch(lists []int, liars []int, chosen []int) []impl.BoardStep {
	var out []impl.BoardStep
	for _, list := range lists {
		out = append(out, proposing(list))
	}
	for member, at := range chosen {
		if slices.Contains(liars, member) {
			for _, list := range lists {
				out = append(out, signing(member, list))
			}
		} else if at < len(lists) {
			out = append(out, signing(member, lists[at]))
		}
	}
	return out
}

// Promise 13: two lists, and all that honest members can do: sign the one, the
// other, or none.
func TestOneListAtMostIsSignedByAQuorum(t *testing.T) {
	lists := []int{2, 7}
	for faults := range mostFaulty + 1 {
		all := 1
		for range boardMembers[faults] {
			all *= 3
		}
		for _, liars := range liarsFor(faults) {
			for n := range all {
				var chosen []int
				for rest := n; len(chosen) < boardMembers[faults]; rest /= 3 {
					chosen = append(chosen, rest%3)
				}
				// liars sign both lists, so what they choose makes no other board
				if !slices.ContainsFunc(liars, func(liar int) bool { return chosen[liar] > 0 }) {
					isCertifiedByChoice(t, faults, liars, lists, chosen)
				}
			}
		}
	}
}

func isCertifiedByChoice(t *testing.T, faults int, liars []int, lists []int, chosen []int) {
	t.Helper()
	l := oneEpoch(lists, liars, chosen)
	b, did, ok := impl.PlayBoard(faults, liars, l)
	if !ok || slices.Contains(did, false) {
		t.Fatalf("PlayBoard(%d, %v, %+v): %+v, %v, %v", faults, liars, l, b, did, ok)
	}
	var want []int
	for at, list := range lists {
		signers := len(liars)
		for member, choice := range chosen {
			if choice == at && !slices.Contains(liars, member) {
				signers++
			}
		}
		if signers >= boardQuorums[faults] {
			want = append(want, list)
		}
	}
	if len(want) > 1 {
		t.Fatal("two are certified", faults, liars, chosen)
	}
	areCertified(t, b, 0, want...)
	areCertified(t, b, 1)
	areCommon(t, b, 0, lists[0], lists[1])
	areCommon(t, b, 0, lists[1], lists[0])
}

// Promise 13 over several epochs, with up to four lists in each, and members
// that try to sign a second one, in any order.
func TestOneListAtMostInEveryEpoch(t *testing.T) {
	r := rand.New(rand.NewSource(134))
	certified := map[int]int{}
	for faults := range mostFaulty + 1 {
		for _, liars := range liarsFor(faults) {
			for range 15 {
				b, did, ok := impl.PlayBoard(faults, liars, severalEpochs(r, faults, liars))
				if !ok || len(did) == 0 {
					t.Fatalf("%+v, %v, %v", b, did, ok)
				}
				saysOneThing(t, b)
				for epoch := range b.Epoch + 1 {
					hasNoTwoFaced(t, b, epoch)
					certified[len(clerkOf(b).certified(epoch))]++
				}
			}
		}
	}
	if certified[0] < 200 || certified[1] < 200 {
		t.Error(certified)
	}
}

func severalEpochs(r *rand.Rand, faults int, liars []int) []impl.BoardStep {
	var out []impl.BoardStep
	for {
		lists := r.Perm(mostListed + 1)[:1+r.Intn(4)]
		var chosen []int
		for range boardMembers[faults] {
			chosen = append(chosen, r.Intn(1+r.Intn(len(lists)+1)))
		}
		steps := oneEpoch(lists, liars, chosen)
		for range 3 {
			steps = append(steps, signing(r.Intn(boardMembers[faults]), lists[r.Intn(len(lists))]))
		}
		r.Shuffle(len(steps)-len(lists), func(i int, j int) {
			i, j = i+len(lists), j+len(lists)
			steps[i], steps[j] = steps[j], steps[i]
		})
		if len(out)+len(steps)+1 > impl.MaxBoardSteps {
			return out
		}
		out = append(append(out, steps...), nextEpoch)
	}
}

// Any two groups with an honest member in common make no good board of two
// lists; any two quorums have one.
func TestAnyTwoQuorumsHaveAnHonestOneInCommon(t *testing.T) {
	for faults := range mostFaulty + 1 {
		all := 1 << boardMembers[faults]
		for _, liars := range liarsFor(faults) {
			for one := range all {
				for other := range all {
					if enough := boardQuorums[faults] - 1; countTrue(bitsIn(one, 7)) >= enough && countTrue(bitsIn(other, 7)) >= enough {
						areTwoGroups(t, impl.Board{Faults: faults, Liars: liars, Signed: append(rowsOf(6, one, 2), rowsOf(6, other, 7)...)})
					}
				}
			}
		}
	}
}

func areTwoGroups(t *testing.T, b impl.Board) {
	t.Helper()
	k := clerkOf(b)
	certified, common := k.certified(6), k.common(6, 2, 7)
	if len(certified) == 2 && len(common) == 0 {
		t.Fatalf("no honest one in common: %+v", b)
	}
	isGoodBoard(t, b, len(common) == 0)
	if len(common) == 0 {
		areCertified(t, b, 6, certified...)
		areCommon(t, b, 6, 2, 7)
	} else if got, ok := impl.CertifiedIn(b, 6); ok || len(got) > 0 {
		t.Fatalf("CertifiedIn(%+v, 6): %v, %v", b, got, ok)
	}
}

// Good boards that no steps made keep the promise as well.
func TestAnyGoodBoardSaysOneThing(t *testing.T) {
	r := rand.New(rand.NewSource(135))
	for n := range 3000 {
		b := drawnBoard(r)
		saysOneThing(t, b)
		if n%10 == 0 {
			hasNoTwoFaced(t, b, r.Intn(mostBoardEpoch+1))
		}
	}
}

func TestCertifiedByHand(t *testing.T) {
	b := impl.Board{Faults: 1, Epoch: 2, Signed: [][]int{{2, 3, 9}, {1, 0, 5}, {2, 0, 9}, {1, 1, 5}, {2, 0, 9}, {1, 3, 0}, {2, 0, 9}}}
	areCertified(t, b, 0)
	areCertified(t, b, 1)
	areCertified(t, b, 2)
	areCertified(t, b, mostBoardEpoch)
	b.Signed = append(b.Signed, []int{2, 2, 9}, []int{1, 2, 5})
	areCertified(t, b, 1, 5)
	areCertified(t, b, 2, 9)
	b.Signed = append(b.Signed, []int{2, 1, 9}, []int{20, 0, 0}, []int{20, 1, 0}, []int{20, 2, 0})
	areCertified(t, b, 2, 9)
	areCertified(t, b, mostBoardEpoch, 0)
	areCertified(t, impl.Board{}, 0)
	areCertified(t, impl.Board{Signed: [][]int{{0, 0, 0}}}, 0, 0)
	areCertified(t, impl.Board{Signed: [][]int{{0, 0, 9}}, Lists: []int{3}}, 0, 9)
	areCertified(t, impl.Board{Faults: 2, Liars: []int{0, 1}, Signed: rowsOf(0, 0b11111, 4)}, 0, 4)
	areCertified(t, impl.Board{Faults: 2, Liars: []int{0, 1}, Signed: rowsOf(0, 0b1111, 4)}, 0)
}

func TestCommonByHand(t *testing.T) {
	b := impl.Board{Faults: 2, Liars: []int{2, 5}, Signed: [][]int{{0, 6, 3}, {0, 2, 3}, {0, 2, 4}, {0, 0, 3}, {0, 4, 4}, {0, 5, 4}, {1, 4, 3}, {0, 0, 3}, {1, 0, 4}}}
	areCommon(t, b, 0, 3, 3, 0, 6)
	areCommon(t, b, 0, 4, 4, 4)
	areCommon(t, b, 0, 3, 4)
	areCommon(t, b, 0, 4, 3)
	areCommon(t, b, 0, 0, 0)
	areCommon(t, b, 0, 9, 9)
	areCommon(t, b, 0, 3, 9)
	areCommon(t, b, 1, 3, 3, 4)
	areCommon(t, b, 1, 4, 4, 0)
	areCommon(t, b, 20, 3, 3)
	areCommon(t, impl.Board{Signed: [][]int{{20, 0, 9}}}, 20, 9, 9, 0)
	areCommon(t, impl.Board{Signed: [][]int{{20, 0, 0}}}, 20, 0, 0, 0)
	areCommon(t, impl.Board{Faults: 1, Signed: rowsOf(4, 0b1111, 0)}, 4, 0, 0, 0, 1, 2, 3)
	areCommon(t, impl.Board{Faults: 1, Liars: []int{0}, Signed: rowsOf(4, 0b1111, 0)}, 4, 0, 0, 1, 2, 3)
}
