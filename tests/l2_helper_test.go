package tests

import (
	"math"
	"math/big"

	"loop.example/g00549/impl"
)

const mostPower = 1000000

// powerThere is a to the k modulo BigPrime, worked out elsewhere.
func powerThere(a int, k int) int {
	return int(new(big.Int).Exp(big.NewInt(int64(a)), big.NewInt(int64(k)), big.NewInt(impl.BigPrime)).Int64())
}

func timesThere(l ...int) int {
	product := 1
	for _, a := range l {
		product = product * a % impl.BigPrime
	}
	return product
}

// membersThere are the squares of all rests: where BigPrime is twice SmallPrime
// and 1, these are just the numbers whose SmallPrime-th power is 1.
func membersThere() map[int]bool {
	members := map[int]bool{}
	for a := 1; a < impl.BigPrime; a++ {
		members[a*a%impl.BigPrime] = true
	}
	return members
}

// secretsThere are secrets or nonces: the edges, each bit alone, and some more.
func secretsThere() []int {
	out := []int{1, 2, 3, impl.SmallPrime - 2, impl.SmallPrime - 1}
	for n := 4; n < impl.SmallPrime; n = n * 2 {
		out = append(out, n, n+1)
	}
	for n := 11; n < impl.SmallPrime; n += 173 {
		out = append(out, n)
	}
	return out
}

// someMembers are members, the least and the greatest one among them.
func someMembers() []int {
	members := membersThere()
	var out []int
	for a := 1; a < impl.BigPrime; a++ {
		if members[a] && (a < 10 || a > impl.BigPrime-20 || a%97 == 5) {
			out = append(out, a)
		}
	}
	return out
}

func wrongSecrets() []int {
	return []int{math.MinInt, math.MinInt + 1, -impl.SmallPrime, 1 - impl.SmallPrime, -1, 0,
		impl.SmallPrime, impl.SmallPrime + 1, 2048, 2049, 1 << 32, math.MaxInt - 1, math.MaxInt}
}

// wrongRests are no numbers in 1..BigPrime - 1, though most of them would be
// one once they are taken modulo BigPrime.
func wrongRests() []int {
	return []int{math.MinInt, math.MinInt + 1, 1 - impl.BigPrime, -impl.BigPrime, -4, -1, 0,
		impl.BigPrime, impl.BigPrime + 1, impl.BigPrime + 4, 1 << 31, 1 << 32, 1<<32 + 1, math.MaxInt - 1, math.MaxInt}
}

// wrongMembers are no members: no rests, and rests whose SmallPrime-th power
// is not 1.
func wrongMembers() []int {
	out := wrongRests()
	members := membersThere()
	for a := 1; a < impl.BigPrime; a++ {
		if !members[a] && (a < 40 || a > impl.BigPrime-40 || a%97 == 5) {
			out = append(out, a)
		}
	}
	return out
}
