package tests

import (
	"math/rand"
	"slices"
	"testing"

	"loop.example/g00549/impl"
)

func isSigned(t *testing.T, secret int, hand int, letter int, want impl.Receipt) {
	t.Helper()
	if got, ok := impl.SignFor(secret, hand-1, hand, letter); !ok || got != want {
		t.Fatalf("SignFor(%d, %d, %d, %d): %+v, %v, not %+v", secret, hand-1, hand, letter, got, ok, want)
	}
}

func isToldRight(t *testing.T, public int, r impl.Receipt, want bool) {
	t.Helper()
	if got, ok := impl.CheckReceipt(public, r); !ok || got != want {
		t.Fatalf("CheckReceipt(%d, %+v): %v, %v, not %v", public, r, got, ok, want)
	}
}

func isTrip(t *testing.T, secrets []int, letter int, loses int, want impl.Trip) {
	t.Helper()
	if got, ok := impl.RunTrip(secrets, letter, loses); !ok || !alikeTrips(got, want) {
		t.Fatalf("RunTrip(%v, %d, %d): %+v, %v, not %+v", secrets, letter, loses, got, ok, want)
	}
}

// isBlamed asks both: a trip is whole just where the last hand is told.
func isBlamed(t *testing.T, publics []int, letter int, l []impl.Receipt, want int) {
	t.Helper()
	if got, ok := impl.BlameOf(publics, letter, l); !ok || got != want {
		t.Fatalf("BlameOf(%v, %d, %+v): %d, %v, not %d", publics, letter, l, got, ok, want)
	}
	whole := want == len(publics)-1
	if got, ok := impl.WholeTrip(publics, letter, l); !ok || got != whole {
		t.Fatalf("WholeTrip(%v, %d, %+v): %v, %v, not %v", publics, letter, l, got, ok, whole)
	}
}

func isProof(t *testing.T, trip impl.Trip, hand int, want ...impl.Receipt) {
	t.Helper()
	if got, ok := impl.ProofFor(trip, hand); !ok || !slices.Equal(got, want) {
		t.Fatalf("ProofFor(%+v, %d): %+v, %v, not %+v", trip, hand, got, ok, want)
	}
}

func TestReceiptLimits(t *testing.T) {
	if impl.MaxHands != 6 || impl.MaxCarry != 40 {
		t.Error(impl.MaxHands, impl.MaxCarry)
	}
}

func TestReceiptSignsByHand(t *testing.T) {
	isSigned(t, 5, 0, 3, impl.Receipt{From: -1, To: 0, Letter: 3, Sign: 558})
	isSigned(t, 7, 1, 3, impl.Receipt{From: 0, To: 1, Letter: 3, Sign: 593})
	isSigned(t, 1, 0, 0, impl.Receipt{From: -1, To: 0, Letter: 0, Sign: 1008})
	isSigned(t, 1, 5, 1000, impl.Receipt{From: 4, To: 5, Letter: 1000, Sign: 1017})
	isSigned(t, 1498, 5, 1000, impl.Receipt{From: 4, To: 5, Letter: 1000, Sign: 482})
	isSigned(t, 2, 2, 500, impl.Receipt{From: 1, To: 2, Letter: 500, Sign: 1024})
	isSigned(t, 77, 0, 491, impl.Receipt{From: -1, To: 0, Letter: 491, Sign: 0})
	isSigned(t, 1498, 4, 984, impl.Receipt{From: 3, To: 4, Letter: 984, Sign: 0})
}

// Each letter at each hand, by some secrets; what is signed is right.
func TestEachLetterAtEachHand(t *testing.T) {
	for _, secret := range []int{1, 2, 5, 750, greatestSmall} {
		public := powerThere(impl.Root, secret)
		for hand := range impl.MaxHands {
			for letter := range mostNumbered + 1 {
				want := receiptThere(secret, hand, letter)
				isSigned(t, secret, hand, letter, want)
				isToldRight(t, public, want, true)
			}
		}
	}
}

func TestEachSecretSigns(t *testing.T) {
	for secret := 1; secret < impl.SmallPrime; secret++ {
		public := powerThere(impl.Root, secret)
		for hand := range impl.MaxHands {
			for _, letter := range []int{0, 491, mostNumbered} {
				want := receiptThere(secret, hand, letter)
				isSigned(t, secret, hand, letter, want)
				isToldRight(t, public, want, true)
				want.Sign = restOfSmall(want.Sign + 1)
				isToldRight(t, public, want, false)
			}
		}
	}
}

// from and to of all sorts: none but the next one.
func TestSignsBetweenWhom(t *testing.T) {
	for from := -4; from <= impl.MaxHands+3; from++ {
		for to := -4; to <= impl.MaxHands+3; to++ {
			want, is := impl.Receipt{}, from >= -1 && from <= impl.MaxHands-2 && to == from+1
			if is {
				want = receiptThere(9, to, 44)
			}
			if got, ok := impl.SignFor(9, from, to, 44); got != want || ok != is {
				t.Errorf("SignFor(9, %d, %d, 44): %+v, %v", from, to, got, ok)
			}
		}
	}
}

func TestChecksOfReceiptsByHand(t *testing.T) {
	isToldRight(t, 1024, impl.Receipt{From: -1, To: 0, Letter: 3, Sign: 558}, true)
	isToldRight(t, 1024, impl.Receipt{From: -1, To: 0, Letter: 3, Sign: 557}, false)
	isToldRight(t, 1024, impl.Receipt{From: -1, To: 0, Letter: 4, Sign: 558}, false)
	isToldRight(t, 1024, impl.Receipt{From: 0, To: 1, Letter: 3, Sign: 558}, false)
	isToldRight(t, 4, impl.Receipt{From: -1, To: 0, Letter: 3, Sign: 558}, false)
	isToldRight(t, 4, impl.Receipt{From: -1, To: 0, Letter: 0, Sign: 1008}, true)
	isToldRight(t, 1, impl.Receipt{From: -1, To: 0, Letter: 3, Sign: 0}, true)
	isToldRight(t, 1, impl.Receipt{From: -1, To: 0, Letter: 3, Sign: 1}, false)
}

// Each Sign that there is: of one number one alone is right.
func TestEachSignOfAReceipt(t *testing.T) {
	var powers []int
	for sign := range impl.SmallPrime {
		powers = append(powers, powerThere(impl.Root, sign))
	}
	for _, public := range []int{1, impl.Root, 1024, someMembers()[7]} {
		for hand := range impl.MaxHands {
			for _, letter := range []int{0, 3, 486, 491, 984, 989, mostNumbered} {
				power := powerThere(public, signedThere(hand-1, letter))
				rights := 0
				for sign, rootTo := range powers {
					is := rootTo == power
					isToldRight(t, public, impl.Receipt{From: hand - 1, To: hand, Letter: letter, Sign: sign}, is)
					if is {
						rights++
					}
				}
				if rights != 1 {
					t.Errorf("public %d, hand %d, letter %d: %d Signs are right", public, hand, letter, rights)
				}
			}
		}
	}
}

// Each public that there is: of a number that is not 0 one alone, else all of
// them where the Sign is 0, and none where it is not.
func TestEachPublicOfAReceipt(t *testing.T) {
	noughts := 0
	for hand := range impl.MaxHands {
		for _, letter := range someNumbered() {
			r := receiptThere(77, hand, letter)
			other := r
			other.Sign = restOfSmall(r.Sign + 5)
			rights, others := 0, 0
			for public := range membersThere() {
				is, ok := impl.CheckReceipt(public, r)
				isOther, okOther := impl.CheckReceipt(public, other)
				if !ok || !okOther {
					t.Fatalf("%d, %+v", public, r)
				}
				if is {
					rights++
				}
				if isOther {
					others++
				}
			}
			wantRights, wantOthers := 1, 1
			if signedThere(hand-1, letter) == 0 {
				noughts++
				wantRights, wantOthers = impl.SmallPrime, 0
			}
			if rights != wantRights || others != wantOthers {
				t.Errorf("hand %d, letter %d: right with %d publics and %d", hand, letter, rights, others)
			}
		}
	}
	if noughts != 4 {
		t.Error(noughts)
	}
}

func TestReceiptsAreCheckedAsSaid(t *testing.T) {
	r := rand.New(rand.NewSource(111))
	publics := append(someMembers(), publicsThere([]int{1, 5, 7, greatestSmall})...)
	rights := 0
	for range 40000 {
		secret, hand, letter := []int{1, 5, 7, greatestSmall}[r.Intn(4)], r.Intn(impl.MaxHands), someNumbered()[r.Intn(len(someNumbered()))]
		x := receiptThere(secret, hand, letter)
		switch r.Intn(6) {
		case 0:
			x.Sign = r.Intn(impl.SmallPrime)
		case 1:
			x.Letter = r.Intn(mostNumbered + 1)
		case 2:
			other := r.Intn(impl.MaxHands)
			x.From, x.To = other-1, other
		}
		public := publics[r.Intn(len(publics))]
		if r.Intn(2) == 0 {
			public = powerThere(impl.Root, secret)
		}
		want := isRightThere(public, x)
		isToldRight(t, public, x, want)
		if want {
			rights++
		}
	}
	if rights < 5000 || rights > 35000 {
		t.Error(rights)
	}
}

func TestPublics(t *testing.T) {
	for _, secrets := range handSecrets() {
		if got, ok := impl.PublicsOf(secrets); !ok || !slices.Equal(got, publicsThere(secrets)) {
			t.Errorf("PublicsOf(%v): %v, %v", secrets, got, ok)
		}
	}
	for secret := 1; secret < impl.SmallPrime; secret++ {
		one, is := impl.PublicFor(secret)
		if got, ok := impl.PublicsOf([]int{secret, 5, secret}); !ok || !is || !slices.Equal(got, []int{one, 1024, one}) {
			t.Fatalf("PublicsOf of %d: %v, %v", secret, got, ok)
		}
	}
}

func TestTripsByHand(t *testing.T) {
	first := impl.Receipt{From: -1, To: 0, Letter: 3, Sign: 558}
	second := impl.Receipt{From: 0, To: 1, Letter: 3, Sign: 593}
	third := impl.Receipt{From: 1, To: 2, Letter: 3, Sign: 135}
	hands := []int{0, 1, 2}
	isTrip(t, []int{5, 7, 9}, 3, 0, impl.Trip{Hands: hands, Letter: 3, At: 0, Receipts: []impl.Receipt{first}, Lost: 0})
	isTrip(t, []int{5, 7, 9}, 3, 1, impl.Trip{Hands: hands, Letter: 3, At: 1, Receipts: []impl.Receipt{first, second}, Lost: 1})
	isTrip(t, []int{5, 7, 9}, 3, 2, impl.Trip{Hands: hands, Letter: 3, At: 2, Receipts: []impl.Receipt{first, second, third}, Lost: 2})
	isTrip(t, []int{5, 7, 9}, 3, -1, impl.Trip{Hands: hands, Letter: 3, At: 2, Receipts: []impl.Receipt{first, second, third}, Lost: -1})
	isTrip(t, []int{5}, 3, 0, impl.Trip{Hands: []int{0}, Letter: 3, At: 0, Receipts: []impl.Receipt{first}, Lost: 0})
	isTrip(t, []int{5}, 3, -1, impl.Trip{Hands: []int{0}, Letter: 3, At: 0, Receipts: []impl.Receipt{first}, Lost: -1})
}

// Each number of hands, each that loses the letter, and none, each letter of
// some.
func TestTripsAreAsSaid(t *testing.T) {
	for _, secrets := range handSecrets() {
		for loses := -1; loses < len(secrets); loses++ {
			for _, letter := range someNumbered() {
				isTrip(t, secrets, letter, loses, tripThere(secrets, letter, loses))
			}
		}
	}
}

// Promise 11.
func TestALostLetterIsLaidToJustTheHandThatLostIt(t *testing.T) {
	r := rand.New(rand.NewSource(112))
	for _, secrets := range handSecrets() {
		publics, _ := impl.PublicsOf(secrets)
		for loses := -1; loses < len(secrets); loses++ {
			lost := loses
			if loses == -1 {
				lost = len(secrets) - 1
			}
			for _, letter := range someNumbered() {
				trip, ok := impl.RunTrip(secrets, letter, loses)
				if !ok || trip.At != lost {
					t.Fatalf("RunTrip(%v, %d, %d): %+v, %v", secrets, letter, loses, trip, ok)
				}
				isBlamed(t, publics, letter, trip.Receipts, lost)
				isBlamed(t, publics, letter, inAnotherOrder(r, trip.Receipts), lost)
				twice := slices.Concat(trip.Receipts, trip.Receipts[r.Intn(lost+1):], trip.Receipts[:1])
				isBlamed(t, publics, letter, inAnotherOrder(r, twice), lost)
				beside := besideTrip(r, secrets, letter, impl.MaxCarry-len(twice))
				isBlamed(t, publics, letter, slices.Concat(twice, beside), lost)
				isBlamed(t, publics, letter, slices.Concat(beside, twice), lost)
				isBlamed(t, publics, letter, inAnotherOrder(r, slices.Concat(twice, beside)), lost)
				isBlamed(t, publics, letter, beside, -1)
			}
		}
	}
}

// Each hand that gave the letter on has the next one's receipt; who lost it, and
// all behind, have none.
func TestProofsOfATrip(t *testing.T) {
	for _, secrets := range handSecrets() {
		for loses := -1; loses < len(secrets); loses++ {
			trip, _ := impl.RunTrip(secrets, 491, loses)
			for hand := range secrets {
				if hand < trip.At {
					isProof(t, trip, hand, receiptThere(secrets[hand+1], hand+1, 491))
				} else {
					isProof(t, trip, hand)
				}
			}
		}
	}
}

// With one receipt away the hand ahead of it is told, whoever is behind.
func TestTheFirstHandWithoutAReceiptTellsIt(t *testing.T) {
	for _, secrets := range handSecrets() {
		publics := publicsThere(secrets)
		for _, letter := range someNumbered() {
			trip := tripThere(secrets, letter, -1)
			for away := range secrets {
				left := slices.Delete(slices.Clone(trip.Receipts), away, away+1)
				isBlamed(t, publics, letter, left, away-1)
			}
			for mask := range 1 << len(secrets) {
				left := someOf(trip.Receipts, mask)
				isBlamed(t, publics, letter, left, blameThere(publics, letter, left))
			}
		}
	}
}

func TestBlameByHand(t *testing.T) {
	publics := publicsThere([]int{5, 7, 9})
	first, second, third := receiptThere(5, 0, 3), receiptThere(7, 1, 3), receiptThere(9, 2, 3)
	isBlamed(t, publics, 3, nil, -1)
	isBlamed(t, publics, 3, []impl.Receipt{second, third}, -1)
	isBlamed(t, publics, 3, []impl.Receipt{third, first}, 0)
	isBlamed(t, publics, 3, []impl.Receipt{second, first}, 1)
	isBlamed(t, publics, 3, []impl.Receipt{second, third, first}, 2)
	isBlamed(t, publics, 4, []impl.Receipt{first, second, third}, -1)
	isBlamed(t, publics[:2], 3, []impl.Receipt{first, second, third}, 1)
	isBlamed(t, publics[:1], 3, []impl.Receipt{first, second, third}, 0)
	isBlamed(t, publics[:1], 3, []impl.Receipt{second, third}, -1)
	isBlamed(t, []int{1024, 4, publics[2]}, 3, []impl.Receipt{first, second, third}, 0)
	isBlamed(t, slices.Repeat([]int{1}, 6), 3, []impl.Receipt{{From: -1, Letter: 3}, {From: 0, To: 1, Letter: 3}, {From: 1, To: 2, Letter: 3, Sign: 1}}, 1)
}

// A hand's receipt in another's place: for another letter, from another hand,
// with another Sign, or what is no receipt at all.
func TestAWrongReceiptCountsForNothing(t *testing.T) {
	secrets := []int{5, 7, 9, 750, 11, 1300}
	publics := publicsThere(secrets)
	for _, letter := range someNumbered() {
		whole := tripThere(secrets, letter, -1).Receipts
		for hand, secret := range secrets {
			for _, wrong := range slices.Concat(forgedFor(secret, hand, letter), noReceipts(secret, hand, letter), elsewhere(secret, hand, letter)) {
				l := slices.Clone(whole)
				l[hand] = wrong
				isBlamed(t, publics, letter, l, hand-1)
				isBlamed(t, publics, letter, append(l, whole[hand]), len(secrets)-1)
			}
		}
	}
}

// A receipt that one hand signed for another is none of the other's.
func TestNoHandSignsForAnother(t *testing.T) {
	secrets := []int{5, 7, 9, 750, 11, 1300}
	publics := publicsThere(secrets)
	for hand := range secrets {
		for other, secret := range secrets {
			l := tripThere(secrets, 3, -1).Receipts
			l[hand] = receiptThere(secret, hand, 3)
			want := hand - 1
			if other == hand {
				want = len(secrets) - 1
			}
			isBlamed(t, publics, 3, l, want)
		}
	}
}

func TestBlameIsAsSaid(t *testing.T) {
	r := rand.New(rand.NewSource(113))
	told := map[int]int{}
	for n := range 20000 {
		secrets := handSecrets()[n%len(handSecrets())]
		letter := someNumbered()[r.Intn(len(someNumbered()))]
		var l []impl.Receipt
		for range r.Intn(2 * len(secrets)) {
			hand := r.Intn(len(secrets))
			l = append(l, receiptThere(secrets[hand], hand, letter))
		}
		l = inAnotherOrder(r, append(l, besideTrip(r, secrets[:1], letter, r.Intn(8))...))
		publics := publicsThere(secrets)
		want := blameThere(publics, letter, l)
		told[want]++
		isBlamed(t, publics, letter, l, want)
	}
	for hand := -1; hand < impl.MaxHands; hand++ {
		if told[hand] < 50 {
			t.Errorf("hand %d is told %d times", hand, told[hand])
		}
	}
}

// As many as may be carried are looked through to the last one.
func TestTheMostReceipts(t *testing.T) {
	secrets := []int{5, 7, 9, 750, 11, 1300}
	publics := publicsThere(secrets)
	whole := tripThere(secrets, 3, -1).Receipts
	for hand := range secrets {
		others := slices.Delete(slices.Clone(whole), hand, hand+1)
		l := slices.Concat(others, slices.Repeat([]impl.Receipt{others[0]}, impl.MaxCarry-len(others)))
		isBlamed(t, publics, 3, l, hand-1)
		for at := range l[len(others):] {
			found := slices.Clone(l)
			found[len(others)+at] = whole[hand]
			isBlamed(t, publics, 3, found, len(secrets)-1)
		}
	}
	isBlamed(t, publics, 3, make([]impl.Receipt, impl.MaxCarry), -1)
}

// What a trip says elsewhere does not matter for a proof, as the document asks
// for nothing but its hands and who its Receipts are from.
func TestProofsOfOtherTrips(t *testing.T) {
	whole := tripThere([]int{5, 7, 9}, 3, -1)
	second, third := whole.Receipts[1], whole.Receipts[2]
	isProof(t, impl.Trip{Hands: []int{0, 1, 2}}, 1)
	isProof(t, impl.Trip{Hands: []int{0, 1, 2}, Receipts: whole.Receipts}, 0, second)
	isProof(t, impl.Trip{Hands: []int{0, 1, 2}, Letter: -5, At: 99, Receipts: whole.Receipts, Lost: -7}, 1, third)
	isProof(t, impl.Trip{Hands: []int{2, 0, 1}, Letter: 3, At: 2, Receipts: whole.Receipts, Lost: -1}, 1, third)
	isProof(t, impl.Trip{Hands: []int{0, 1}, Letter: 3, At: 1, Receipts: whole.Receipts, Lost: -1}, 1, third)
	twice := []impl.Receipt{third, second, third, second}
	isProof(t, impl.Trip{Hands: []int{0, 1, 2}, Letter: 3, At: 2, Receipts: twice, Lost: -1}, 0, second, second)
	isProof(t, impl.Trip{Hands: []int{0, 1, 2}, Letter: 3, At: 2, Receipts: twice, Lost: -1}, 2)
	odd := []impl.Receipt{{From: 1, To: 77, Letter: -1, Sign: -1}, {}, {From: 1}, second, {From: -1}}
	isProof(t, impl.Trip{Hands: []int{0, 1, 2}, Letter: 3, At: 2, Receipts: odd, Lost: -1}, 1, odd[0], odd[2])
	isProof(t, impl.Trip{Hands: []int{0, 1, 2}, Letter: 3, At: 2, Receipts: odd, Lost: -1}, 0, odd[1], odd[3])
	many := slices.Repeat(twice, 20)
	isProof(t, impl.Trip{Hands: []int{0, 1, 2}, Receipts: many}, 1, slices.Repeat([]impl.Receipt{third}, 40)...)
}
