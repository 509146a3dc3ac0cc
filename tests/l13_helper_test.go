package tests

import (
	"maps"
	"math"
	"math/bits"
	"math/rand"
	"slices"

	"loop.example/g00549/impl"
)

const mostBoardEpoch = 20
const mostListed = 9
const mostSigned = 200

// How many members, and how many of them are a quorum, by faults.
var boardMembers = []int{1, 4, 7}
var boardQuorums = []int{1, 3, 5}

func proposing(list int) impl.BoardStep {
	return impl.BoardStep{Kind: impl.BdPropose, List: list}
}

func signing(member int, list int) impl.BoardStep {
	return impl.BoardStep{Kind: impl.BdSign, Member: member, List: list}
}

// nextEpoch is the one step that closes an epoch.
var nextEpoch = impl.BoardStep{Kind: impl.BdEpoch}

// clerk keeps a board by sets of its own: who has signed what, and when, and
// beside them the order in which it was signed.
type clerk struct {
	faults int
	liars  map[int]bool
	epoch  int
	open   map[int]bool
	has    map[[3]int]int
	came   [][3]int
}

func newClerk(faults int, liars []int) *clerk {
	k := &clerk{faults: faults, liars: map[int]bool{}, open: map[int]bool{}, has: map[[3]int]int{}}
	for _, liar := range liars {
		k.liars[liar] = true
	}
	return k
}

func clerkOf(b impl.Board) *clerk {
	k := newClerk(b.Faults, b.Liars)
	k.epoch = b.Epoch
	for _, list := range b.Lists {
		k.open[list] = true
	}
	for _, row := range b.Signed {
		k.write([3]int(row))
	}
	return k
}

func (k *clerk) write(row [3]int) {
	k.has[row]++
	k.came = append(k.came, row)
}

// listsOf is what a member has signed in an epoch, rising.
func (k *clerk) listsOf(epoch int, member int) []int {
	var out []int
	for list := range mostListed + 1 {
		if k.has[[3]int{epoch, member, list}] > 0 {
			out = append(out, list)
		}
	}
	return out
}

func (k *clerk) step(s impl.BoardStep) bool {
	switch {
	case s.Kind == impl.BdPropose && s.Member == 0 && 0 <= s.List && s.List <= mostListed && !k.open[s.List]:
		k.open[s.List] = true
		return true
	case s.Kind == impl.BdSign && 0 <= s.Member && s.Member < boardMembers[k.faults] && k.open[s.List] && len(k.came) < mostSigned:
		signed := k.listsOf(k.epoch, s.Member)
		if slices.Contains(signed, s.List) || !k.liars[s.Member] && len(signed) > 0 {
			return false
		}
		k.write([3]int{k.epoch, s.Member, s.List})
		return true
	case s.Kind == impl.BdEpoch && s.Member == 0 && s.List == 0 && k.epoch < mostBoardEpoch:
		k.epoch++
		k.open = map[int]bool{}
		return true
	}
	return false
}

func (k *clerk) board() impl.Board {
	b := impl.Board{Faults: k.faults, Epoch: k.epoch, Liars: slices.Sorted(maps.Keys(k.liars)), Lists: slices.Sorted(maps.Keys(k.open))}
	for _, row := range k.came {
		b.Signed = append(b.Signed, row[:])
	}
	return b
}

func (k *clerk) certified(epoch int) []int {
	var out []int
	for list := range mostListed + 1 {
		signers := 0
		for member := range boardMembers[k.faults] {
			signers += min(k.has[[3]int{epoch, member, list}], 1)
		}
		if signers >= boardQuorums[k.faults] {
			out = append(out, list)
		}
	}
	return out
}

// common is asked of boards that are not good, too.
func (k *clerk) common(epoch int, x int, y int) []int {
	var out []int
	for member := range boardMembers[k.faults] {
		signed := k.listsOf(epoch, member)
		if !k.liars[member] && slices.Contains(signed, x) && slices.Contains(signed, y) {
			out = append(out, member)
		}
	}
	return out
}

func playedThere(faults int, liars []int, l []impl.BoardStep) (impl.Board, []bool) {
	k := newClerk(faults, liars)
	var did []bool
	for _, s := range l {
		did = append(did, k.step(s))
	}
	return k.board(), did
}

func isRisingWithin(l []int, most int) bool {
	last := -1
	for _, n := range l {
		if n <= last || n > most {
			return false
		}
		last = n
	}
	return true
}

func isBoardThere(b impl.Board) bool {
	if b.Faults < 0 || b.Faults > mostFaulty || b.Epoch < 0 || b.Epoch > mostBoardEpoch || len(b.Signed) > mostSigned {
		return false
	}
	if len(b.Liars) > b.Faults || !isRisingWithin(b.Liars, boardMembers[b.Faults]-1) || !isRisingWithin(b.Lists, mostListed) {
		return false
	}
	first := map[[2]int]int{}
	for _, row := range b.Signed {
		if len(row) != 3 || min(row[0], row[1], row[2]) < 0 || row[0] > mostBoardEpoch || row[1] >= boardMembers[b.Faults] || row[2] > mostListed {
			return false
		}
		at := [2]int{row[0], row[1]}
		if list, is := first[at]; is && list != row[2] && !slices.Contains(b.Liars, row[1]) {
			return false
		}
		first[at] = row[2]
	}
	return true
}

func alikeBoards(a impl.Board, b impl.Board) bool {
	return a.Faults == b.Faults && a.Epoch == b.Epoch && slices.EqualFunc(a.Signed, b.Signed, slices.Equal[[]int]) && slices.Equal(a.Liars, b.Liars) && slices.Equal(a.Lists, b.Lists)
}

func cloneBoard(b impl.Board) impl.Board {
	b.Signed, b.Liars, b.Lists = cloneRows(b.Signed), slices.Clone(b.Liars), slices.Clone(b.Lists)
	return b
}

// liarsFor are all that a board with so many faults may have.
func liarsFor(faults int) [][]int {
	var out [][]int
	for n := range 1 << boardMembers[faults] {
		if bits.OnesCount(uint(n)) <= faults {
			out = append(out, someOf(risingOrder(boardMembers[faults]), n))
		}
	}
	return out
}

// rowsOf are signatures of one list by the members of a mask.
func rowsOf(epoch int, mask int, list int) [][]int {
	var out [][]int
	for member := range impl.MaxBoard {
		if mask>>member&1 == 1 {
			out = append(out, []int{epoch, member, list})
		}
	}
	return out
}

// unlikeRows are so many, up to 420, all by the liars 0 and 1, none twice.
func unlikeRows(many int) [][]int {
	var out [][]int
	for n := range many {
		out = append(out, []int{n / 20, n % 2, n / 2 % 10})
	}
	return out
}

// fullBoard has so many signed, as unlikeRows, and is in its last epoch, in
// which nobody has signed anything of them where they are at most 400.
func fullBoard(many int) impl.Board {
	return impl.Board{Faults: 2, Epoch: mostBoardEpoch, Signed: unlikeRows(many), Liars: []int{0, 1}, Lists: []int{0, 3, 9}}
}

// drawnRows keep what honest members must keep: in each epoch one list each, if
// any; liars sign whatever comes.
func drawnRows(r *rand.Rand, faults int, liars []int, many int) [][]int {
	var out [][]int
	kept := map[[2]int]int{}
	epochs := 1 + r.Intn(mostBoardEpoch+1)
	for range many {
		at := [2]int{r.Intn(epochs), r.Intn(boardMembers[faults])}
		list, is := kept[at]
		if !is || slices.Contains(liars, at[1]) {
			list = r.Intn(mostListed + 1)
			kept[at] = list
		}
		out = append(out, []int{at[0], at[1], list})
	}
	return out
}

// drawnBoard is a good one, not always one that steps would make: the same may
// be signed twice, or in an epoch that is still to come.
func drawnBoard(r *rand.Rand) impl.Board {
	faults := r.Intn(mostFaulty + 1)
	all := liarsFor(faults)
	liars := all[r.Intn(len(all))]
	return impl.Board{Faults: faults, Epoch: r.Intn(mostBoardEpoch + 1), Liars: liars, Lists: someOf(risingOrder(mostListed+1), r.Intn(1<<(mostListed+1))), Signed: drawnRows(r, faults, liars, r.Intn(mostSigned+1)>>r.Intn(6))}
}

// someBoards are good: the edges, and drawn ones.
func someBoards() []impl.Board {
	r := rand.New(rand.NewSource(13))
	out := []impl.Board{{}, {Epoch: mostBoardEpoch}, {Lists: risingOrder(10)}, {Faults: 1}, {Faults: 1, Liars: []int{3}}, {Faults: 2, Liars: []int{0, 6}}, {Faults: 2, Liars: []int{6}, Epoch: 19, Lists: []int{0, 9}},
		{Signed: [][]int{{0, 0, 0}}}, {Signed: [][]int{{20, 0, 9}}}, {Signed: [][]int{{3, 0, 4}, {3, 0, 4}, {2, 0, 5}}, Epoch: 3, Lists: []int{4, 5}},
		{Faults: 2, Signed: slices.Repeat([][]int{{7, 6, 9}}, mostSigned), Epoch: 7, Lists: []int{8, 9}}, fullBoard(mostSigned - 1), fullBoard(mostSigned)}
	for range 60 {
		out = append(out, drawnBoard(r))
	}
	return out
}

func wrongBoardEpochs() []int {
	return []int{math.MinInt, math.MinInt + 1, -1 << 32, -mostBoardEpoch, -2, -1, mostBoardEpoch + 1, mostBoardEpoch + 2, 255, 256, 1 << 32, 1<<32 + 3, math.MaxInt - 1, math.MaxInt}
}

func wrongListed() []int {
	return []int{math.MinInt, math.MinInt + 1, -1 << 32, -mostListed, -2, -1, mostListed + 1, mostListed + 2, 255, 256, 1 << 32, 1<<32 + 3, math.MaxInt - 1, math.MaxInt}
}

// wrongMembersFor are no members of a board with so many faults.
func wrongMembersFor(faults int) []int {
	many := boardMembers[faults]
	return []int{math.MinInt, math.MinInt + 1, -1 << 32, -many, -2, -1, many, many + 1, impl.MaxBoard, impl.MaxBoard + 1, 256, 1 << 32, 1<<32 + 1, math.MaxInt - 1, math.MaxInt}
}

// wrongLiarsFor do not rise, are twice there, are no members, or more than
// faults.
func wrongLiarsFor(faults int) [][]int {
	members := boardMembers[faults]
	out := [][]int{risingOrder(faults + 1), risingOrder(members), risingOrder(impl.MaxBoard), make([]int, faults+1), make([]int, 256), risingOrder(100000)}
	if faults == 1 {
		out = append(out, []int{2, 3}, []int{3, 3})
	}
	if faults == 2 {
		out = append(out, []int{1, 0}, []int{6, 0}, []int{6, 5}, []int{0, 0}, []int{6, 6}, []int{4, 5, 6}, []int{2, 1, 0})
	}
	for _, wrong := range wrongMembersFor(faults) {
		if faults > 0 {
			out = append(out, []int{wrong})
		}
		if faults > 1 {
			out = append(out, []int{wrong, members - 1}, []int{0, wrong})
		}
	}
	return out
}

func wrongListsOfBoards() [][]int {
	out := [][]int{{1, 0}, {9, 0}, {0, 0}, {9, 9}, {0, 2, 1}, {0, 1, 1}, {3, 3, 4}, risingOrder(11), make([]int, 10), make([]int, 11), backwardsOrder(10), make([]int, 256), risingOrder(100000)}
	for _, wrong := range wrongListed() {
		out = append(out, []int{wrong}, []int{wrong, 5}, []int{5, wrong}, []int{0, 5, wrong}, append(risingOrder(9), wrong))
	}
	return out
}

// wrongRowsFor are no signatures on a board with so many faults.
func wrongRowsFor(faults int) [][]int {
	out := [][]int{nil, {}, {0}, {0, 0}, {0, 0, 0, 0}, {1, 0, 2, 0, 0, 0}, make([]int, 1000)}
	for _, wrong := range wrongBoardEpochs() {
		out = append(out, []int{wrong, 0, 0})
	}
	for _, wrong := range wrongMembersFor(faults) {
		out = append(out, []int{0, wrong, 0})
	}
	for _, wrong := range wrongListed() {
		out = append(out, []int{0, 0, wrong})
	}
	return out
}

// wrongSignedFor have too many, a wrong one among right ones, or two lists of
// one honest member in one epoch. The right ones are by no liar.
func wrongSignedFor(faults int) [][][]int {
	right := []int{5, boardMembers[faults] - 1, 3}
	var out [][][]int
	for _, many := range []int{mostSigned + 1, mostSigned + 2, 2 * mostSigned, 100000} {
		out = append(out, slices.Repeat([][]int{right}, many))
	}
	for _, wrong := range wrongRowsFor(faults) {
		for _, at := range []int{0, mostSigned / 2, mostSigned - 1} {
			l := slices.Repeat([][]int{right}, mostSigned)
			l[at] = wrong
			out = append(out, l)
		}
	}
	for list := range mostListed + 1 {
		if list != right[2] {
			other := []int{right[0], right[1], list}
			last := append(slices.Repeat([][]int{right}, mostSigned-1), other)
			out = append(out, [][]int{right, other}, [][]int{other, right}, [][]int{right, {6, right[1], list}, {4, right[1], list}, other}, last)
		}
	}
	return append(out, wrongAmong(right, wrongRowsFor(faults), 3)...)
}

// wrongBoards are not good, each by one thing alone.
func wrongBoards() []impl.Board {
	var out []impl.Board
	for _, n := range wrongFaults() {
		out = append(out, impl.Board{Faults: n}, impl.Board{Faults: n, Epoch: 3, Signed: [][]int{{0, 0, 0}}, Lists: []int{2, 4}})
	}
	for faults := range mostFaulty + 1 {
		good := impl.Board{Faults: faults, Epoch: 5, Signed: [][]int{{5, 0, 3}, {4, 0, 2}}, Lists: []int{3, 7}}
		for _, n := range wrongBoardEpochs() {
			wrong := good
			wrong.Epoch = n
			out = append(out, wrong, impl.Board{Faults: faults, Epoch: n})
		}
		for _, l := range wrongLiarsFor(faults) {
			wrong := good
			wrong.Liars = l
			out = append(out, wrong, impl.Board{Faults: faults, Liars: l})
		}
		for _, l := range wrongListsOfBoards() {
			wrong := good
			wrong.Lists = l
			out = append(out, wrong, impl.Board{Faults: faults, Lists: l})
		}
		for _, l := range wrongSignedFor(faults) {
			wrong := good
			wrong.Signed = l
			out = append(out, wrong)
		}
	}
	return append(out, fullBoard(mostSigned+1), fullBoard(2*mostSigned))
}

// noBoardKinds are numbers of no kind of step.
func noBoardKinds() []int {
	return []int{math.MinInt, math.MinInt + 1, math.MinInt + 2, math.MinInt + 3, -1 << 32, -3, -2, -1, 0, 4, 5, 10, 255, 256 + impl.BdPropose, 256 + impl.BdSign, 1<<16 + impl.BdEpoch, 1<<32 + impl.BdPropose, 1<<32 + impl.BdSign, 1<<32 + impl.BdEpoch, math.MaxInt - 1, math.MaxInt}
}

// neverOnBoards are steps that no board does.
func neverOnBoards() []impl.BoardStep {
	var out []impl.BoardStep
	for _, kind := range noBoardKinds() {
		out = append(out, impl.BoardStep{Kind: kind}, impl.BoardStep{Kind: kind, List: 3}, impl.BoardStep{Kind: kind, Member: 1, List: 3})
	}
	for _, list := range wrongListed() {
		out = append(out, proposing(list), signing(0, list), impl.BoardStep{Kind: impl.BdEpoch, List: list})
	}
	for _, member := range wrongMembersFor(mostFaulty) {
		out = append(out, signing(member, 3), impl.BoardStep{Kind: impl.BdPropose, Member: member, List: 3}, impl.BoardStep{Kind: impl.BdEpoch, Member: member})
	}
	for n := 1; n <= mostListed; n++ {
		out = append(out, impl.BoardStep{Kind: impl.BdPropose, Member: n, List: 3}, impl.BoardStep{Kind: impl.BdEpoch, Member: n}, impl.BoardStep{Kind: impl.BdEpoch, List: n}, impl.BoardStep{Kind: impl.BdEpoch, Member: n, List: n})
	}
	return out
}

// eachBoardStep are all that some board does, and those that none does.
func eachBoardStep() []impl.BoardStep {
	out := []impl.BoardStep{nextEpoch}
	for list := range mostListed + 1 {
		out = append(out, proposing(list))
		for member := range impl.MaxBoard {
			out = append(out, signing(member, list))
		}
	}
	return append(out, neverOnBoards()...)
}

// drawnBoardSteps are of few lists, so that many sign the same, now and then
// with a step that is not done.
func drawnBoardSteps(r *rand.Rand, faults int, many int) []impl.BoardStep {
	var out []impl.BoardStep
	never := neverOnBoards()
	lists := r.Perm(mostListed + 1)[:1+r.Intn(4)]
	epochs := 2 + r.Intn(20)
	for range many {
		list := lists[r.Intn(len(lists))]
		switch n := r.Intn(10); {
		case r.Intn(epochs) == 0:
			out = append(out, nextEpoch)
		case n == 0:
			out = append(out, never[r.Intn(len(never))])
		case n < 3:
			out = append(out, proposing(list))
		default:
			out = append(out, signing(r.Intn(boardMembers[faults]), list))
		}
	}
	return out
}

func tooManyBoardSteps() [][]impl.BoardStep {
	var out [][]impl.BoardStep
	for _, many := range []int{impl.MaxBoardSteps + 1, impl.MaxBoardSteps + 2, 2 * impl.MaxBoardSteps, 256, 100000} {
		for _, s := range []impl.BoardStep{nextEpoch, proposing(1), {}} {
			out = append(out, slices.Repeat([]impl.BoardStep{s}, many))
		}
	}
	return out
}
