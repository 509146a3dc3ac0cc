package tests

import (
	"math"
	"math/rand"
	"slices"
	"testing"

	"loop.example/g00549/impl"
)

// carried is what a function of chapter 11 tells, whichever it is.
type carried struct {
	r    impl.Receipt
	trip impl.Trip
	l    []impl.Receipt
	nums []int
	n    int
	is   bool
	ok   bool
}

// carryCall is one call of a function of chapter 11; nums are secrets or
// publics, n is a secret, a public, a hand, or the one that loses.
type carryCall struct {
	name   string
	nums   []int
	l      []impl.Receipt
	trip   impl.Trip
	r      impl.Receipt
	n      int
	from   int
	to     int
	letter int
}

func (c carryCall) run() carried {
	var out carried
	switch c.name {
	case "SignFor":
		out.r, out.ok = impl.SignFor(c.n, c.from, c.to, c.letter)
	case "CheckReceipt":
		out.is, out.ok = impl.CheckReceipt(c.n, c.r)
	case "RunTrip":
		out.trip, out.ok = impl.RunTrip(c.nums, c.letter, c.n)
	case "BlameOf":
		out.n, out.ok = impl.BlameOf(c.nums, c.letter, c.l)
	case "ProofFor":
		out.l, out.ok = impl.ProofFor(c.trip, c.n)
	case "PublicsOf":
		out.nums, out.ok = impl.PublicsOf(c.nums)
	case "WholeTrip":
		out.is, out.ok = impl.WholeTrip(c.nums, c.letter, c.l)
	}
	return out
}

func (c carryCall) isLong() bool {
	return len(c.nums) > 100 || len(c.l) > 100 || len(c.trip.Hands) > 100 || len(c.trip.Receipts) > 100
}

func (x carried) isAlike(y carried) bool {
	return x.r == y.r && alikeTrips(x.trip, y.trip) && slices.Equal(x.l, y.l) && slices.Equal(x.nums, y.nums) && x.n == y.n && x.is == y.is && x.ok == y.ok
}

func isRefusedCarry(t *testing.T, c carryCall) {
	t.Helper()
	if got := c.run(); !got.isAlike(carried{}) {
		if c.isLong() {
			c = carryCall{name: c.name + " of very many"}
		}
		t.Fatalf("%+v: %+v", c, got)
	}
}

// isNotTraced asks both that go through receipts.
func isNotTraced(t *testing.T, publics []int, letter int, l []impl.Receipt) {
	t.Helper()
	isRefusedCarry(t, carryCall{name: "BlameOf", nums: publics, letter: letter, l: l})
	isRefusedCarry(t, carryCall{name: "WholeTrip", nums: publics, letter: letter, l: l})
}

func TestWrongSignersGetTheZeroAnswer(t *testing.T) {
	for _, secret := range wrongSecrets() {
		for from := -3; from <= impl.MaxHands; from++ {
			for _, letter := range append(someNumbered(), wrongNumbered()...) {
				isRefusedCarry(t, carryCall{name: "SignFor", n: secret, from: from, to: from + 1, letter: letter})
			}
		}
	}
}

func TestWrongLettersAreNotSigned(t *testing.T) {
	for _, letter := range wrongNumbered() {
		for _, secret := range append(secretsThere(), wrongSecrets()...) {
			for from := -3; from <= impl.MaxHands; from++ {
				isRefusedCarry(t, carryCall{name: "SignFor", n: secret, from: from, to: from + 1, letter: letter})
			}
		}
	}
}

func TestWhatIsBetweenNoHandsIsNotSigned(t *testing.T) {
	ends := append(wrongFroms(), -1, 0, 1, impl.MaxHands-3, impl.MaxHands-2)
	for _, secret := range secretsThere() {
		for _, from := range wrongFroms() {
			isRefusedCarry(t, carryCall{name: "SignFor", n: secret, from: from, to: from + 1, letter: 3})
			for _, to := range ends {
				isRefusedCarry(t, carryCall{name: "SignFor", n: secret, from: from, to: to, letter: 3})
			}
		}
		for from := -1; from <= impl.MaxHands-2; from++ {
			for _, to := range ends {
				if to != from+1 {
					isRefusedCarry(t, carryCall{name: "SignFor", n: secret, from: from, to: to, letter: 3})
				}
			}
		}
	}
}

func TestWhatIsNoMemberChecksNothing(t *testing.T) {
	for _, public := range wrongMembers() {
		for hand := range impl.MaxHands {
			for _, letter := range []int{0, 3, 491, mostNumbered} {
				right := receiptThere(5, hand, letter)
				for _, sign := range []int{right.Sign, 0, 1, greatestSmall} {
					right.Sign = sign
					isRefusedCarry(t, carryCall{name: "CheckReceipt", n: public, r: right})
				}
			}
		}
		for _, r := range noReceipts(5, 1, 3) {
			isRefusedCarry(t, carryCall{name: "CheckReceipt", n: public, r: r})
		}
	}
}

func TestWhatIsNoReceiptIsNotChecked(t *testing.T) {
	for hand := range impl.MaxHands {
		for _, letter := range []int{0, 3, 486, 491, 984, 989, mostNumbered} {
			for _, secret := range []int{1, 5, greatestSmall} {
				for _, r := range noReceipts(secret, hand, letter) {
					isRefusedCarry(t, carryCall{name: "CheckReceipt", n: powerThere(impl.Root, secret), r: r})
					isRefusedCarry(t, carryCall{name: "CheckReceipt", n: 1, r: r})
				}
			}
		}
	}
}

// The Signs at both ends, and those beyond.
func TestSignsAtTheirEnds(t *testing.T) {
	for sign := -3; sign <= impl.SmallPrime+3; sign++ {
		is := sign >= 0 && sign < impl.SmallPrime
		r := impl.Receipt{From: -1, Letter: 3, Sign: sign}
		if _, ok := impl.CheckReceipt(1024, r); ok != is || isReceiptThere(r) != is {
			t.Errorf("a Sign of %d: %v", sign, ok)
		}
	}
}

func TestWrongSecretsMakeNoPublicsAndNoTrip(t *testing.T) {
	for _, secrets := range wrongHandSecrets() {
		isRefusedCarry(t, carryCall{name: "PublicsOf", nums: secrets})
		for _, letter := range []int{-1, 0, 3, mostNumbered, mostNumbered + 1} {
			for _, loses := range []int{-2, -1, 0, len(secrets) - 1, len(secrets)} {
				isRefusedCarry(t, carryCall{name: "RunTrip", nums: secrets, letter: letter, n: loses})
			}
		}
	}
}

func TestWrongLettersMakeNoTrip(t *testing.T) {
	for _, letter := range wrongNumbered() {
		for _, secrets := range handSecrets() {
			for loses := -2; loses <= len(secrets)+1; loses++ {
				isRefusedCarry(t, carryCall{name: "RunTrip", nums: secrets, letter: letter, n: loses})
			}
		}
	}
}

func TestWhoIsNotThereLosesNothing(t *testing.T) {
	for _, secrets := range handSecrets() {
		for _, loses := range []int{math.MinInt, math.MinInt + 1, -1 << 32, -3, -2, len(secrets), len(secrets) + 1, impl.MaxHands, 255, 1<<32 - 1, 1 << 32, math.MaxInt - 1, math.MaxInt} {
			for _, letter := range []int{0, 3, mostNumbered} {
				isRefusedCarry(t, carryCall{name: "RunTrip", nums: secrets, letter: letter, n: loses})
			}
		}
	}
}

func TestWrongPublicsTraceNothing(t *testing.T) {
	trip := tripThere([]int{1, 1, 1, 1, 1, 1}, 3, -1)
	for _, publics := range wrongPublics() {
		for _, letter := range []int{-1, 0, 3, mostNumbered, mostNumbered + 1} {
			isNotTraced(t, publics, letter, nil)
			isNotTraced(t, publics, letter, trip.Receipts[:1])
			isNotTraced(t, publics, letter, trip.Receipts)
		}
	}
}

func TestWrongLettersAreNotTraced(t *testing.T) {
	for _, letter := range wrongNumbered() {
		for _, secrets := range handSecrets() {
			publics := publicsThere(secrets)
			isNotTraced(t, publics, letter, nil)
			isNotTraced(t, publics, letter, tripThere(secrets, 3, -1).Receipts)
			isNotTraced(t, publics, letter, []impl.Receipt{{From: -1, Letter: letter}, {From: 0, To: 1, Letter: letter}})
		}
	}
}

func TestTooManyReceiptsAreNotTraced(t *testing.T) {
	for _, secrets := range handSecrets() {
		publics := publicsThere(secrets)
		trip := tripThere(secrets, 3, -1)
		for _, many := range []int{impl.MaxCarry + 1, impl.MaxCarry + 2, 2 * impl.MaxCarry, 256, 100000} {
			isNotTraced(t, publics, 3, make([]impl.Receipt, many))
			isNotTraced(t, publics, 3, slices.Repeat(trip.Receipts, many)[:many])
		}
	}
}

func TestWhoIsNoHandOfATripHasNoProof(t *testing.T) {
	for _, secrets := range handSecrets() {
		for loses := -1; loses < len(secrets); loses++ {
			trip := tripThere(secrets, 3, loses)
			for _, hand := range []int{math.MinInt, math.MinInt + 1, -1 << 32, -2, -1, len(secrets), len(secrets) + 1, impl.MaxHands, impl.MaxHands + 1, 255, 1<<32 - 1, 1 << 32, math.MaxInt - 1, math.MaxInt} {
				isRefusedCarry(t, carryCall{name: "ProofFor", trip: trip, n: hand})
			}
		}
	}
}

// wrongTrips have hands that are not numbered as the document says, each with
// a number that is none of its hands.
func wrongTrips() []carryCall {
	l := tripThere([]int{5, 7, 9}, 3, -1).Receipts
	out := []carryCall{{}, {n: -1}, {trip: impl.Trip{Letter: 3, At: 2, Receipts: l, Lost: -1}}, {trip: impl.Trip{Hands: []int{}, Receipts: l}}}
	for _, hand := range []int{math.MinInt, -2, -1, 1, 5, 6, math.MaxInt} {
		odd := impl.Receipt{From: hand, To: hand + 1}
		out = append(out, carryCall{trip: impl.Trip{Hands: []int{hand}, Receipts: append(slices.Clone(l), odd)}, n: hand})
		out = append(out, carryCall{trip: impl.Trip{Hands: []int{hand}, Receipts: append(slices.Clone(l), odd)}, n: 0})
	}
	for _, many := range []int{impl.MaxHands + 1, impl.MaxHands + 2, 2 * impl.MaxHands, 100000} {
		for _, hand := range []int{0, 1, impl.MaxHands - 1, impl.MaxHands, many - 1} {
			out = append(out, carryCall{trip: impl.Trip{Hands: risingOrder(many), Letter: 3, Receipts: l, Lost: -1}, n: hand})
		}
	}
	for i := range out {
		out[i].name = "ProofFor"
	}
	return out
}

func TestTripsWithoutSuchAHandHaveNoProof(t *testing.T) {
	for _, c := range wrongTrips() {
		isRefusedCarry(t, c)
	}
}

// anyCarryCalls are calls of each function, good ones and others.
func anyCarryCalls() []carryCall {
	r := rand.New(rand.NewSource(1111))
	out := wrongTrips()
	for _, secrets := range slices.Concat(handSecrets(), wrongHandSecrets()[:40]) {
		out = append(out, carryCall{name: "PublicsOf", nums: secrets})
		for loses := -2; loses <= min(len(secrets), impl.MaxHands); loses++ {
			out = append(out, carryCall{name: "RunTrip", nums: secrets, letter: 491, n: loses}, carryCall{name: "RunTrip", nums: secrets, letter: mostNumbered + 1, n: loses})
		}
	}
	for _, secrets := range handSecrets() {
		for loses := -1; loses < len(secrets); loses++ {
			trip := tripThere(secrets, 3, loses)
			for hand := -1; hand <= len(secrets); hand++ {
				out = append(out, carryCall{name: "ProofFor", trip: trip, n: hand})
			}
			for _, many := range []int{0, 1, 10, impl.MaxCarry - len(trip.Receipts), impl.MaxCarry} {
				l := inAnotherOrder(r, slices.Concat(trip.Receipts, besideTrip(r, secrets, 3, many)))
				for _, letter := range []int{3, 4, -1} {
					out = append(out, carryCall{name: "BlameOf", nums: publicsThere(secrets), letter: letter, l: l}, carryCall{name: "WholeTrip", nums: publicsThere(secrets), letter: letter, l: l})
				}
			}
		}
	}
	for _, publics := range wrongPublics()[:40] {
		out = append(out, carryCall{name: "BlameOf", nums: publics, letter: 3}, carryCall{name: "WholeTrip", nums: publics, letter: 3})
	}
	for _, receipt := range append(noReceipts(5, 1, 3), receiptThere(5, 1, 3)) {
		out = append(out, carryCall{name: "CheckReceipt", n: 1024, r: receipt}, carryCall{name: "SignFor", n: 5, from: receipt.From, to: receipt.To, letter: receipt.Letter})
	}
	return slices.DeleteFunc(out, carryCall.isLong)
}

// withRoomBehind is c with other memory behind each of its lists, that would
// change the answer if it were read, and all of that memory.
func (c carryCall) withRoomBehind() (carryCall, carryCall) {
	held := c
	behind := impl.Receipt{From: c.n, To: c.n + 1, Letter: c.letter}
	c.nums, held.nums = withRoom(c.nums, 4)
	c.l, held.l = withRoom(c.l, behind)
	c.trip.Hands, held.trip.Hands = withRoom(c.trip.Hands, c.n)
	c.trip.Receipts, held.trip.Receipts = withRoom(c.trip.Receipts, behind)
	return c, held
}

func (c carryCall) clone() carryCall {
	c.nums, c.l, c.trip.Hands, c.trip.Receipts = slices.Clone(c.nums), slices.Clone(c.l), slices.Clone(c.trip.Hands), slices.Clone(c.trip.Receipts)
	return c
}

func (c carryCall) isKept(was carryCall) bool {
	return slices.Equal(c.nums, was.nums) && slices.Equal(c.l, was.l) && alikeTrips(c.trip, was.trip)
}

func (x carried) handsOutBehind() bool {
	for _, l := range [][]int{x.nums, x.trip.Hands} {
		if slices.ContainsFunc(l[len(l):cap(l)], func(n int) bool { return n != 0 }) {
			return true
		}
	}
	for _, l := range [][]impl.Receipt{x.l, x.trip.Receipts} {
		if slices.ContainsFunc(l[len(l):cap(l)], func(r impl.Receipt) bool { return r != impl.Receipt{} }) {
			return true
		}
	}
	return false
}

func (x carried) scribble() {
	for _, l := range [][]int{x.nums, x.trip.Hands} {
		scribbleOver(l, func(n int) int { return n + 77 })
	}
	for _, l := range [][]impl.Receipt{x.l, x.trip.Receipts} {
		scribbleOver(l, func(impl.Receipt) impl.Receipt { return impl.Receipt{From: 77, To: 77, Letter: 77, Sign: 77} })
	}
}

func TestReceiptsNeitherWriteNorShare(t *testing.T) {
	for _, c := range anyCarryCalls() {
		given, held := c.withRoomBehind()
		was := held.clone()
		got := given.run()
		if !held.isKept(was) {
			t.Fatalf("%+v writes into an argument", c)
		}
		if !got.isAlike(c.run()) {
			t.Fatalf("%+v hangs on what lies behind the lists", c)
		}
		if got.handsOutBehind() {
			t.Fatalf("%+v hands out what lies behind", c)
		}
		got.scribble()
		if !held.isKept(was) {
			t.Fatalf("%+v shares memory with an argument", c)
		}
		if !given.run().isAlike(c.run()) {
			t.Fatalf("%+v is another one the second time", c)
		}
	}
}

// A trip made of secrets is another one than what is made of the same secrets
// later.
func TestTripsAndPublicsAreNewEachTime(t *testing.T) {
	secrets := []int{5, 7, 9}
	trip, _ := impl.RunTrip(secrets, 3, 1)
	publics, _ := impl.PublicsOf(secrets)
	carried{trip: trip, nums: publics}.scribble()
	isTrip(t, secrets, 3, 1, tripThere(secrets, 3, 1))
	if again, ok := impl.PublicsOf(secrets); !ok || !slices.Equal(again, publicsThere(secrets)) || !slices.Equal(secrets, []int{5, 7, 9}) {
		t.Error(again, ok, secrets)
	}
}

func TestNoHandsAndNoReceiptsAreTheNilOnes(t *testing.T) {
	for _, c := range anyCarryCalls() {
		empty := c
		empty.nums = append([]int{}, c.nums...)
		empty.l = append([]impl.Receipt{}, c.l...)
		empty.trip.Hands = append([]int{}, c.trip.Hands...)
		empty.trip.Receipts = append([]impl.Receipt{}, c.trip.Receipts...)
		if !empty.run().isAlike(c.run()) {
			t.Fatalf("%+v", c)
		}
	}
}
