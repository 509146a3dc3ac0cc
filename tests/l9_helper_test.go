package tests

import (
	"iter"
	"math"
	"math/rand"
	"slices"
	"strconv"

	"loop.example/g00549/impl"
)

// portNumbers are all numbers of ports that switches are for.
var portNumbers = []int{1, 2, 4, 8}

// settingsThere is how many settings so many ports have.
var settingsThere = map[int]int{1: 0, 2: 1, 4: 6, 8: 20}

func appliedThere(order []int, l []string) []string {
	out := make([]string, len(l))
	for k := range l {
		out[k] = l[order[k]]
	}
	return out
}

// thenThere looks for each number behind both, number by number.
func thenThere(a []int, b []int) []int {
	names := numbersAsTexts(len(a))
	var out []int
	for _, name := range appliedThere(b, appliedThere(a, names)) {
		out = append(out, slices.Index(names, name))
	}
	return out
}

// cyclesThere takes the least number that is left, and goes on from it.
func cyclesThere(order []int) [][]int {
	left := risingOrder(len(order))
	var out [][]int
	for len(left) > 0 {
		cycle := []int{left[0]}
		for next := order[left[0]]; next != left[0]; next = order[next] {
			cycle = append(cycle, next)
		}
		left = slices.DeleteFunc(left, func(n int) bool { return slices.Contains(cycle, n) })
		out = append(out, cycle)
	}
	return out
}

// signThere counts the pairs that are out of order, not the cycles.
func signThere(order []int) int {
	sign := 1
	for i := range order {
		for k := range i {
			if order[k] > order[i] {
				sign = -sign
			}
		}
	}
	return sign
}

// lengthThere puts the order together with itself till it is the rising one.
func lengthThere(order []int) int {
	many := 1
	for over := order; !slices.Equal(over, risingOrder(len(order))); many++ {
		over = thenThere(over, order)
	}
	return many
}

// exitThere follows what comes in at one place to where it goes out.
func exitThere(many int, set []bool, from int) int {
	switch {
	case many == 1:
		return from
	case many == 2 && set[0]:
		return 1 - from
	case many == 2:
		return from
	}
	half, inner := many/2, settingsThere[many/2]
	isLower := (from%2 == 1) != set[from/2]
	middle := set[half : half+inner]
	if isLower {
		middle = set[half+inner : half+2*inner]
	}
	at := exitThere(half, middle, from/2)
	if isLower != set[half+2*inner+at] {
		return 2*at + 1
	}
	return 2 * at
}

func ranThere(many int, set []bool, l []string) []string {
	out := make([]string, many)
	for from, s := range l {
		out[exitThere(many, set, from)] = s
	}
	return out
}

// routeThere is the chapter's way, word by word: it writes down by which half
// each place takes, and each entry goes, ahead of any setting.
func routeThere(order []int) []bool {
	switch len(order) {
	case 1:
		return nil
	case 2:
		return []bool{!slices.Equal(order, []int{0, 1})}
	}
	const upper, lower = "upper", "lower"
	takesFrom := make([]string, len(order))
	goesBy := make([]string, len(order))
	for slices.Contains(takesFrom, "") {
		place := slices.Index(takesFrom, "")
		for takesFrom[place] == "" {
			takesFrom[place] = upper
			goesBy[order[place]] = upper
			other := order[place] + 1
			if order[place]%2 == 1 {
				other = order[place] - 1
			}
			goesBy[other] = lower
			taker := slices.Index(order, other)
			takesFrom[taker] = lower
			place = taker + 1
			if taker%2 == 1 {
				place = taker - 1
			}
		}
	}
	var entry, exit []bool
	halfOrders := map[string][]int{}
	for i := 0; i < len(order); i += 2 {
		entry = append(entry, goesBy[i] == lower)
		exit = append(exit, takesFrom[i] == lower)
		halfOrders[takesFrom[i]] = append(halfOrders[takesFrom[i]], order[i]/2)
		halfOrders[takesFrom[i+1]] = append(halfOrders[takesFrom[i+1]], order[i+1]/2)
	}
	return slices.Concat(entry, routeThere(halfOrders[upper]), routeThere(halfOrders[lower]), exit)
}

// loopsThere are the places that are bound to each other, as two that stand
// beside each other at the entry or at the exit have unlike halves: for each
// place the least one of its loop.
func loopsThere(order []int) []int {
	least := risingOrder(len(order))
	for range order {
		for p := range order {
			for q := range order {
				if p/2 == q/2 || order[p]/2 == order[q]/2 {
					least[p] = min(least[p], least[q])
				}
			}
		}
	}
	return least
}

func numbersAsTexts(many int) []string {
	var out []string
	for i := range many {
		out = append(out, "text "+strconv.Itoa(i))
	}
	return out
}

// eachOrderOf are all orders of so many, each a new list.
func eachOrderOf(many int) iter.Seq[[]int] {
	return func(yield func([]int) bool) {
		order := risingOrder(many)
		for yield(slices.Clone(order)) && nextOrder(order) {
		}
	}
}

func backwardsOrder(many int) []int {
	out := risingOrder(many)
	slices.Reverse(out)
	return out
}

// ringOrder is one cycle of so many.
func ringOrder(many int) []int {
	var out []int
	for i := range many {
		out = append(out, (i+1)%many)
	}
	return out
}

// crossedOrder is the rising one but for two numbers.
func crossedOrder(many int, a int, b int) []int {
	out := risingOrder(many)
	out[a], out[b] = out[b], out[a]
	return out
}

// ringsTogether is one cycle behind the other, of so many numbers each.
func ringsTogether(lengths ...int) []int {
	var out []int
	for _, long := range lengths {
		from := len(out)
		for _, at := range ringOrder(long) {
			out = append(out, from+at)
		}
	}
	return out
}

// someOrders are all of up to five numbers, and of more some, with the rising
// one, the one backwards, one cycle, and each two crossed.
func someOrders() [][]int {
	r := rand.New(rand.NewSource(9))
	var out [][]int
	for many := range 6 {
		out = slices.AppendSeq(out, eachOrderOf(many))
	}
	for many := 6; many <= impl.MaxOrder; many++ {
		out = append(out, risingOrder(many), backwardsOrder(many), ringOrder(many))
		for a := range many {
			for b := range a {
				out = append(out, crossedOrder(many, a, b))
			}
		}
		for range 150 {
			out = append(out, r.Perm(many))
		}
	}
	return out
}

// ordersOfPorts are those of someOrders that RouteOrder takes.
func ordersOfPorts() [][]int {
	return slices.DeleteFunc(someOrders(), func(order []int) bool { return !slices.Contains(portNumbers, len(order)) })
}

func drawnSettings(r *rand.Rand, many int) []bool {
	var out []bool
	for range settingsThere[many] {
		out = append(out, r.Intn(2) == 1)
	}
	return out
}

func bitsOfNumber(n int, many int) []bool {
	var out []bool
	for i := range many {
		out = append(out, n>>i&1 == 1)
	}
	return out
}

// settingsFor are none set, all set, each one set or unset alone, and some.
func settingsFor(many int) [][]bool {
	r := rand.New(rand.NewSource(int64(90 + many)))
	count := settingsThere[many]
	out := [][]bool{make([]bool, count), slices.Repeat([]bool{true}, count)}
	for i := range count {
		alone, but := make([]bool, count), slices.Repeat([]bool{true}, count)
		alone[i], but[i] = true, false
		out = append(out, alone, but)
	}
	for range 300 {
		out = append(out, drawnSettings(r, many))
	}
	return out
}

// textListsOf are so many texts: all unlike, all alike, empty, of any bytes.
func textListsOf(many int) [][]string {
	r := rand.New(rand.NewSource(int64(900 + many)))
	var anyBytes []string
	for range many {
		anyBytes = append(anyBytes, randomText(r, r.Intn(50)))
	}
	return [][]string{numbersAsTexts(many), slices.Repeat([]string{"same"}, many), make([]string, many), anyBytes}
}

// noPorts are numbers that no switches are for, the ends among them, and those
// that look like good ones in fewer bits.
func noPorts() []int {
	out := []int{math.MinInt, math.MinInt + 1, -1 << 62, -1 << 32, -16, -8, -4, -2, 24, 32, 64, 128, 256, 256 + 8, 1 << 16, 1<<16 + 4, 1 << 32, 1<<32 + 2, 1 << 62, math.MaxInt - 1, math.MaxInt}
	for many := -1; many <= 20; many++ {
		if !slices.Contains(portNumbers, many) {
			out = append(out, many)
		}
	}
	return out
}
