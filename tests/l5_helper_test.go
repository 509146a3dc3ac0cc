package tests

import (
	"math"
	"math/rand"
	"slices"

	"loop.example/g00549/impl"
)

const greatestSmall = impl.SmallPrime - 1

// restOfSmall is n modulo SmallPrime, below 0 too.
func restOfSmall(n int) int {
	return (n%impl.SmallPrime + impl.SmallPrime) % impl.SmallPrime
}

// overThere is a divided by b, found by trying all numbers.
func overThere(a int, b int) int {
	for q := range impl.SmallPrime {
		if restOfSmall(b*q-a) == 0 {
			return q
		}
	}
	panic("divided by 0")
}

// valueThere adds up each number times its power of x.
func valueThere(poly []int, x int) int {
	sum, power := 0, 1
	for _, n := range poly {
		sum = restOfSmall(sum + n*power)
		power = restOfSmall(power * x)
	}
	return sum
}

// polyThere solves the equations that the parts are, number by number.
func polyThere(l []impl.Part) []int {
	var rows [][]int
	for _, p := range l {
		var row []int
		power := 1
		for range l {
			row = append(row, power)
			power = restOfSmall(power * p.X)
		}
		rows = append(rows, append(row, p.Y))
	}
	for at := range rows {
		for rows[at][at] == 0 {
			rows = append(append(slices.Clone(rows[:at]), rows[at+1:]...), rows[at])
		}
		by := rows[at][at]
		for i := range rows[at] {
			rows[at][i] = overThere(rows[at][i], by)
		}
		for other := range rows {
			times := rows[other][at]
			for i := range rows[other] {
				if other != at {
					rows[other][i] = restOfSmall(rows[other][i] - times*rows[at][i])
				}
			}
		}
	}
	var poly []int
	for _, row := range rows {
		poly = append(poly, row[len(l)])
	}
	return poly
}

func partsThere(poly []int, xs []int) []impl.Part {
	var out []impl.Part
	for _, x := range xs {
		out = append(out, impl.Part{X: x, Y: valueThere(poly, x)})
	}
	return out
}

// somePolys have each number of numbers: all 0, all the greatest, noughts at
// the ends, and others.
func somePolys() [][]int {
	r := rand.New(rand.NewSource(5))
	var out [][]int
	for many := 1; many <= impl.MaxParts; many++ {
		first, last := make([]int, many), make([]int, many)
		first[0], last[many-1] = 1498, 1497
		out = append(out, make([]int, many), slices.Repeat([]int{greatestSmall}, many), first, last)
		for range 3 {
			out = append(out, randomSmalls(r, many))
		}
	}
	return out
}

func randomSmalls(r *rand.Rand, many int) []int {
	var out []int
	for range many {
		out = append(out, r.Intn(impl.SmallPrime))
	}
	return out
}

// somePlaces are lists of X of each length: from 1 up, from the greatest down,
// out of order, with and without 1, and others.
func somePlaces() [][]int {
	r := rand.New(rand.NewSource(55))
	var out [][]int
	for many := 1; many <= impl.MaxParts; many++ {
		up, down, twos := make([]int, many), make([]int, many), make([]int, many)
		for i := range many {
			up[i], down[i], twos[i] = i+1, greatestSmall-i, 2*i+2
		}
		back := slices.Clone(up)
		slices.Reverse(back)
		out = append(out, up, back, down, twos)
		for range 3 {
			var any []int
			for _, x := range r.Perm(greatestSmall)[:many] {
				any = append(any, x+1)
			}
			out = append(out, any)
		}
		among := r.Perm(impl.MaxParts + 1)[:many]
		for i := range among {
			among[i]++
		}
		out = append(out, among)
	}
	return append(out, []int{3, 1, 2}, []int{2, 1, 4}, []int{7, 6, 5, 4, 3, 2, 1}, []int{5, 1, 3}, []int{1, greatestSmall}, []int{greatestSmall, 1, 2})
}

// someParts have all lists of places, with Y's of 0, the greatest, and others.
func someParts() [][]impl.Part {
	r := rand.New(rand.NewSource(555))
	var out [][]impl.Part
	for _, xs := range somePlaces() {
		for kind := range 3 {
			var parts []impl.Part
			for _, x := range xs {
				parts = append(parts, impl.Part{X: x, Y: []int{0, greatestSmall, r.Intn(impl.SmallPrime)}[kind]})
			}
			out = append(out, parts)
		}
	}
	return out
}

// someOf are those of l that the bits of mask name.
func someOf[E any](l []E, mask int) []E {
	var out []E
	for i, e := range l {
		if mask>>i&1 == 1 {
			out = append(out, e)
		}
	}
	return out
}

func xsOf(l []impl.Part) []int {
	var out []int
	for _, p := range l {
		out = append(out, p.X)
	}
	return out
}

// wrongSmalls are no numbers in 0..SmallPrime - 1, though all of them would be
// one once they are taken modulo SmallPrime.
func wrongSmalls() []int {
	return []int{math.MinInt, math.MinInt + 1, -impl.SmallPrime, 1 - impl.SmallPrime, -2, -1, impl.SmallPrime,
		impl.SmallPrime + 1, 2 * impl.SmallPrime, impl.BigPrime, 1 << 32, 1<<32 + 1, math.MaxInt - 1, math.MaxInt}
}

// wrongPolys have no number, too many, or a wrong one at each place.
func wrongPolys() [][]int {
	out := [][]int{nil, {}, make([]int, impl.MaxParts+1), slices.Repeat([]int{greatestSmall}, impl.MaxParts+1), make([]int, 100000)}
	for _, wrong := range wrongSmalls() {
		for many := 1; many <= impl.MaxParts; many++ {
			for at := range many {
				poly := slices.Repeat([]int{3}, many)
				poly[at] = wrong
				out = append(out, poly)
			}
		}
	}
	return out
}

// wrongPlaces are no lists of X: none, too many, one of them wrong, or the same
// one twice.
func wrongPlaces() [][]int {
	nine := []int{9, 1, 8, 2, 7, 3, 6, 4, 5}
	out := [][]int{nil, {}, nine, {1, 2, 3, 4, 5, 6, 7, 8, 8}, append(slices.Clone(nine), nine...), make([]int, 100000)}
	for many := 1; many <= impl.MaxParts; many++ {
		for at := range many {
			for _, wrong := range append(wrongSmalls(), 0) {
				xs := slices.Clone(nine[:many])
				xs[at] = wrong
				out = append(out, xs)
			}
			for other := range at {
				xs := slices.Clone(nine[:many])
				xs[at] = xs[other]
				out = append(out, xs)
			}
		}
	}
	return out
}

// wrongParts have wrong places, or a wrong Y at one of them.
func wrongParts() [][]impl.Part {
	var out [][]impl.Part
	for _, xs := range wrongPlaces() {
		var alike, unlike []impl.Part
		for i, x := range xs {
			alike = append(alike, impl.Part{X: x, Y: 7})
			unlike = append(unlike, impl.Part{X: x, Y: i % impl.SmallPrime})
		}
		out = append(out, alike, unlike)
	}
	for _, wrong := range wrongSmalls() {
		for many := 1; many <= impl.MaxParts; many++ {
			for at := range many {
				parts := partsThere([]int{5, 6}, []int{9, 1, 8, 2, 7, 3, 6, 4}[:many])
				parts[at].Y = wrong
				out = append(out, parts)
			}
		}
	}
	return out
}
