package tests

import (
	"math"
	"math/rand"
	"slices"

	"loop.example/g00549/impl"
)

const mostNumbered = 1000

// signedThere is the number that a hand's receipt for a letter is signed by.
func signedThere(from int, letter int) int {
	sum := letter + 7
	for range from + 2 {
		sum += 1001
	}
	return restOfSmall(sum)
}

func receiptThere(secret int, hand int, letter int) impl.Receipt {
	return impl.Receipt{From: hand - 1, To: hand, Letter: letter, Sign: restOfSmall(signedThere(hand-1, letter) * secret)}
}

// isReceiptThere goes through all that a receipt may be between.
func isReceiptThere(r impl.Receipt) bool {
	between := false
	for from := -1; from <= impl.MaxHands-2; from++ {
		between = between || r.From == from && r.To == from+1
	}
	return between && r.Letter >= 0 && r.Letter <= mostNumbered && r.Sign >= 0 && r.Sign < impl.SmallPrime
}

// isRightThere are the document's own words, for a receipt as said.
func isRightThere(public int, r impl.Receipt) bool {
	return powerThere(impl.Root, r.Sign) == powerThere(public, signedThere(r.From, r.Letter))
}

func tripThere(secrets []int, letter int, loses int) impl.Trip {
	out := impl.Trip{Letter: letter, Lost: loses}
	for hand := range secrets {
		out.Hands = append(out.Hands, hand)
	}
	for hand, secret := range secrets {
		out.At = hand
		out.Receipts = append(out.Receipts, receiptThere(secret, hand, letter))
		if hand == loses {
			break
		}
	}
	return out
}

func publicsThere(secrets []int) []int {
	var out []int
	for _, secret := range secrets {
		out = append(out, powerThere(impl.Root, secret))
	}
	return out
}

// blameThere asks of each receipt which hand's it is, then goes from hand to
// hand.
func blameThere(publics []int, letter int, l []impl.Receipt) int {
	has := map[int]bool{}
	for _, r := range l {
		if isReceiptThere(r) && r.To < len(publics) && r.Letter == letter && isRightThere(publics[r.To], r) {
			has[r.To] = true
		}
	}
	blamed := -1
	for has[blamed+1] {
		blamed++
	}
	return blamed
}

func alikeTrips(a impl.Trip, b impl.Trip) bool {
	return slices.Equal(a.Hands, b.Hands) && a.Letter == b.Letter && a.At == b.At && slices.Equal(a.Receipts, b.Receipts) && a.Lost == b.Lost
}

// someNumbered are letters: the edges, and those with which the number that
// some hand signs by is 0, and the ones beside these.
func someNumbered() []int {
	return []int{0, 1, 2, 3, 485, 486, 487, 490, 491, 492, 500, 983, 984, 985, 988, 989, 990, mostNumbered - 1, mostNumbered}
}

func wrongNumbered() []int {
	return []int{math.MinInt, math.MinInt + 1, -1 << 32, -mostNumbered, -2, -1, mostNumbered + 1, mostNumbered + 2, impl.SmallPrime, impl.SmallPrime + 3, impl.BigPrime, 1 << 32, 1<<32 + 3, math.MaxInt - 1, math.MaxInt}
}

// wrongFroms are no numbers of one who may stand ahead of a hand.
func wrongFroms() []int {
	return []int{math.MinInt, math.MinInt + 1, -1 << 32, -impl.MaxHands, -3, -2, impl.MaxHands - 1, impl.MaxHands, impl.MaxHands + 1, 255, 1<<32 - 1, 1 << 32, math.MaxInt - 1, math.MaxInt}
}

// handSecrets have each number of hands: all the least, all the greatest,
// unlike ones, any ones.
func handSecrets() [][]int {
	r := rand.New(rand.NewSource(11))
	var out [][]int
	for many := 1; many <= impl.MaxHands; many++ {
		out = append(out, slices.Repeat([]int{1}, many), slices.Repeat([]int{greatestSmall}, many), []int{5, 7, 9, 750, 11, 1300}[:many], randomSecrets(r, many))
	}
	return out
}

// wrongHandSecrets have none, too many, or a wrong one among right ones.
func wrongHandSecrets() [][]int {
	out := [][]int{nil, {}, {2, 3, 5, 7, 11, 13, 17}, slices.Repeat([]int{1}, impl.MaxHands+1), slices.Repeat([]int{1}, 2*impl.MaxHands), slices.Repeat([]int{1}, 256), slices.Repeat([]int{1}, 100000)}
	return append(out, wrongAmong(5, wrongSecrets(), impl.MaxHands)...)
}

// wrongPublics have none, too many, or one among members that is none.
func wrongPublics() [][]int {
	out := [][]int{nil, {}, {4, 16, 64, 256, 1024, 1097, 1389}, slices.Repeat([]int{1}, impl.MaxHands+1), slices.Repeat([]int{4}, 2*impl.MaxHands), slices.Repeat([]int{1}, 256), slices.Repeat([]int{1}, 100000)}
	return append(out, wrongAmong(4, wrongMembers(), impl.MaxHands)...)
}

// noReceipts are not as said, each by one thing alone but for the zero one:
// their Signs are those of the receipt that they were made of.
func noReceipts(secret int, hand int, letter int) []impl.Receipt {
	right := receiptThere(secret, hand, letter)
	out := []impl.Receipt{{}}
	with := func(change func(*impl.Receipt)) {
		r := right
		change(&r)
		out = append(out, r)
	}
	for _, from := range wrongFroms() {
		with(func(r *impl.Receipt) { r.From = from })
		with(func(r *impl.Receipt) { r.To = from + 1 })
		with(func(r *impl.Receipt) { r.From, r.To = from, from+1 })
	}
	for from := -1; from <= impl.MaxHands-1; from++ {
		if from != right.From {
			with(func(r *impl.Receipt) { r.From = from })
			with(func(r *impl.Receipt) { r.To = from + 1 })
		}
	}
	for _, other := range wrongNumbered() {
		with(func(r *impl.Receipt) { r.Letter = other })
	}
	for _, sign := range wrongSmalls() {
		with(func(r *impl.Receipt) { r.Sign = sign })
	}
	with(func(r *impl.Receipt) { r.Sign += impl.SmallPrime })
	with(func(r *impl.Receipt) { r.Sign -= impl.SmallPrime })
	return out
}

// forgedFor are receipts as said that are wrong for this hand, with the Sign
// one more or less, that of another letter, of another hand, of another secret,
// and of none.
func forgedFor(secret int, hand int, letter int) []impl.Receipt {
	right := receiptThere(secret, hand, letter)
	signs := []int{right.Sign + 1, right.Sign + greatestSmall, 2 * right.Sign, impl.SmallPrime - right.Sign, 0, 1, greatestSmall,
		signedThere(hand-1, letter), receiptThere(secret+1, hand, letter).Sign,
		receiptThere(secret, hand, (letter+1)%(mostNumbered+1)).Sign, receiptThere(secret, (hand+1)%impl.MaxHands, letter).Sign}
	var out []impl.Receipt
	for _, sign := range signs {
		forged := right
		forged.Sign = restOfSmall(sign)
		if forged != right {
			out = append(out, forged)
		}
	}
	return out
}

// elsewhere are right receipts of this hand for other letters.
func elsewhere(secret int, hand int, letter int) []impl.Receipt {
	var out []impl.Receipt
	for _, other := range someNumbered() {
		if other != letter {
			out = append(out, receiptThere(secret, hand, other))
		}
	}
	return out
}

// besideTrip are drawn receipts that say nothing of this letter: forged ones
// and no ones of each hand, and right ones for other letters.
func besideTrip(r *rand.Rand, secrets []int, letter int, many int) []impl.Receipt {
	var all []impl.Receipt
	for hand, secret := range secrets {
		all = slices.Concat(all, forgedFor(secret, hand, letter), noReceipts(secret, hand, letter), elsewhere(secret, hand, letter))
	}
	all = slices.DeleteFunc(all, func(r impl.Receipt) bool {
		return isReceiptThere(r) && r.To < len(secrets) && r.Letter == letter && r == receiptThere(secrets[r.To], r.To, letter)
	})
	var out []impl.Receipt
	for range many {
		out = append(out, all[r.Intn(len(all))])
	}
	return out
}

func inAnotherOrder[E any](r *rand.Rand, l []E) []E {
	out := slices.Clone(l)
	r.Shuffle(len(out), func(i int, j int) { out[i], out[j] = out[j], out[i] })
	return out
}
