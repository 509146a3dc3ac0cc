package tests

import (
	"math"
	"math/big"
	"math/rand"
	"slices"

	"loop.example/g00549/impl"
)

const mostChoice = 3
const mostLog = 100

// poll is all that CountPoll takes.
type poll struct {
	secrets []int
	nonces  []int
	choices []int
}

func sumThere(l []int) int {
	sum := 0
	for _, n := range l {
		sum += n
	}
	return sum
}

func inverseThere(a int) int {
	return int(new(big.Int).ModInverse(big.NewInt(int64(a)), big.NewInt(impl.BigPrime)).Int64())
}

// rootThere is Root to the k, multiplied up one by one.
func rootThere(k int) int {
	power := 1
	for range k {
		power = power * impl.Root % impl.BigPrime
	}
	return power
}

// voteThere is a vote for a key of which the whole secret is the sum of parts.
func voteThere(secrets []int, nonce int, choice int) impl.Sealed {
	return impl.Sealed{A: rootThere(nonce), B: rootThere((nonce*sumThere(secrets) + choice) % impl.SmallPrime)}
}

// partsOf are what all who hold a secret make of x.
func partsOf(secrets []int, x impl.Sealed) []int {
	var out []int
	for _, secret := range secrets {
		out = append(out, powerThere(x.A, secret))
	}
	return out
}

func randomSecrets(r *rand.Rand, many int) []int {
	var out []int
	for range many {
		out = append(out, 1+r.Intn(greatestSmall))
	}
	return out
}

// secretLists have each number of secrets: all the least, all the greatest,
// and others; some make 0 together, so that their key is 1.
func secretLists() [][]int {
	r := rand.New(rand.NewSource(6))
	var out [][]int
	for many := 1; many <= impl.MaxTrustees; many++ {
		out = append(out, slices.Repeat([]int{1}, many), slices.Repeat([]int{greatestSmall}, many), slices.Repeat([]int{750}, many))
		for range 3 {
			out = append(out, randomSecrets(r, many))
		}
	}
	return append(out, []int{5, 7}, []int{1, greatestSmall}, []int{greatestSmall, 1}, []int{749, 750}, []int{1, 1, 1497}, []int{5, greatestSmall, 1},
		[]int{300, 300, 300, 300, 299}, []int{2, 3, 5, 7, 11}, []int{11, 7, 5, 3, 2})
}

// choiceLists have so many choices: all alike, for each of them, and others.
func choiceLists(r *rand.Rand, many int) [][]int {
	var out [][]int
	for choice := range mostChoice + 1 {
		out = append(out, slices.Repeat([]int{choice}, many))
	}
	for range 2 {
		var mixed []int
		for range many {
			mixed = append(mixed, r.Intn(mostChoice+1))
		}
		out = append(out, mixed)
	}
	return out
}

// nonceLists have so many nonces: all the least, all the greatest, others, and
// pairs that make 0 together.
func nonceLists(r *rand.Rand, many int) [][]int {
	var pairs []int
	for i := range many {
		pairs = append(pairs, []int{700 + i/2, impl.SmallPrime - 700 - i/2}[i%2])
	}
	return [][]int{slices.Repeat([]int{1}, many), slices.Repeat([]int{greatestSmall}, many), pairs, randomSecrets(r, many)}
}

// somePolls have each number of voters with each number of secrets.
func somePolls() []poll {
	r := rand.New(rand.NewSource(66))
	var out []poll
	for voters := range impl.MaxVoters + 1 {
		for _, secrets := range secretLists() {
			for _, nonces := range nonceLists(r, voters) {
				for _, choices := range choiceLists(r, voters) {
					out = append(out, poll{secrets, nonces, choices})
				}
			}
		}
	}
	return out
}

// sealedLists have each number of sealed numbers: all 1 and 1, all alike, and
// others, with the least and the greatest members.
func sealedLists() [][]impl.Sealed {
	r := rand.New(rand.NewSource(666))
	members := someMembers()
	last := members[len(members)-1]
	var out [][]impl.Sealed
	for many := range impl.MaxVoters + 1 {
		var any []impl.Sealed
		for range many {
			any = append(any, impl.Sealed{A: members[r.Intn(len(members))], B: members[r.Intn(len(members))]})
		}
		out = append(out, slices.Repeat([]impl.Sealed{{A: 1, B: 1}}, many), slices.Repeat([]impl.Sealed{{A: last, B: 4}}, many), any)
	}
	return out
}

// someSealed are sealed numbers of the least, the greatest and other members.
func someSealed() []impl.Sealed {
	members := someMembers()
	var out []impl.Sealed
	for i, a := range members {
		out = append(out, impl.Sealed{A: a, B: members[(i*5+3)%len(members)]})
	}
	return append(out, impl.Sealed{A: 1, B: 1}, impl.Sealed{A: 1, B: 4}, impl.Sealed{A: 4, B: 1}, impl.Sealed{A: members[len(members)-1], B: members[len(members)-1]})
}

// wrongSealed have an A, a B or both that are no members.
func wrongSealed() []impl.Sealed {
	out := []impl.Sealed{{}}
	for _, a := range wrongMembers() {
		out = append(out, impl.Sealed{A: a, B: 4}, impl.Sealed{A: 4, B: a}, impl.Sealed{A: a, B: a})
	}
	return out
}

// wrongAmong are lists of each number of right ones, up to most, of which one,
// at each place, is a wrong one.
func wrongAmong[E any](right E, wrong []E, most int) [][]E {
	var out [][]E
	for _, w := range wrong {
		for many := 1; many <= most; many++ {
			for at := range many {
				l := slices.Repeat([]E{right}, many)
				l[at] = w
				out = append(out, l)
			}
		}
	}
	return out
}

// wrongSecretLists have none, too many, or a wrong one among right ones.
func wrongSecretLists() [][]int {
	out := [][]int{nil, {}, {2, 3, 5, 7, 11, 13}, slices.Repeat([]int{1}, impl.MaxTrustees+1), slices.Repeat([]int{1}, 2*impl.MaxTrustees), slices.Repeat([]int{1}, 100000)}
	return append(out, wrongAmong(5, wrongSecrets(), impl.MaxTrustees)...)
}

// wrongSealedLists have too many, or a wrong one among right ones.
func wrongSealedLists() [][]impl.Sealed {
	right := impl.Sealed{A: 16, B: 4}
	one := impl.Sealed{A: 1, B: 1}
	out := [][]impl.Sealed{slices.Repeat([]impl.Sealed{right}, impl.MaxVoters+1), slices.Repeat([]impl.Sealed{one}, impl.MaxVoters+1), slices.Repeat([]impl.Sealed{one}, 100000)}
	return append(out, wrongAmong(right, wrongSealed(), impl.MaxVoters)...)
}

// wrongPartLists have too many, or a part among others that is no member.
func wrongPartLists() [][]int {
	out := [][]int{slices.Repeat([]int{1}, impl.MaxTrustees+1), {4, 16, 64, 256, 1024, 1097}, slices.Repeat([]int{1}, 100000)}
	return append(out, wrongAmong(1, wrongMembers(), impl.MaxTrustees)...)
}

func wrongMosts() []int {
	return []int{math.MinInt, math.MinInt + 1, -1 << 32, -mostLog, -2, -1, mostLog + 1, mostLog + 2, greatestSmall, impl.SmallPrime, 1 << 32, 1<<32 + 50, math.MaxInt - 1, math.MaxInt}
}

func wrongChoices() []int {
	return []int{math.MinInt, math.MinInt + 1, -4, -3, -2, -1, mostChoice + 1, mostChoice + 2, 8, impl.SmallPrime, impl.SmallPrime + 1, 2048, 2049, 1 << 32, math.MaxInt - 1, math.MaxInt}
}
