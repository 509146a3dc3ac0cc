package tests

import (
	"math/rand"
	"slices"
	"testing"

	"loop.example/g00549/impl"
)

func isThen(t *testing.T, a []int, b []int, want []int) {
	t.Helper()
	if got, ok := impl.ThenOrder(a, b); !ok || !slices.Equal(got, want) {
		t.Fatalf("ThenOrder(%v, %v): %v %t, not %v", a, b, got, ok, want)
	}
}

func isBack(t *testing.T, order []int, want []int) {
	t.Helper()
	if got, ok := impl.BackOrder(order); !ok || !slices.Equal(got, want) {
		t.Fatalf("BackOrder(%v): %v %t, not %v", order, got, ok, want)
	}
}

func isInCycles(t *testing.T, order []int, want [][]int) {
	t.Helper()
	if got, ok := impl.CyclesOf(order); !ok || !slices.EqualFunc(got, want, slices.Equal[[]int]) {
		t.Fatalf("CyclesOf(%v): %v %t, not %v", order, got, ok, want)
	}
}

func hasSign(t *testing.T, order []int, want int) {
	t.Helper()
	if got, ok := impl.SignOf(order); !ok || got != want {
		t.Fatalf("SignOf(%v): %d %t, not %d", order, got, ok, want)
	}
}

func hasLength(t *testing.T, order []int, want int) {
	t.Helper()
	if got, ok := impl.LengthOf(order); !ok || got != want {
		t.Fatalf("LengthOf(%v): %d %t, not %d", order, got, ok, want)
	}
}

func isApplied(t *testing.T, order []int, l []string, want []string) {
	t.Helper()
	if got, ok := impl.ApplyOrder(order, l); !ok || !slices.Equal(got, want) {
		t.Fatalf("ApplyOrder(%v, %q): %q %t, not %q", order, l, got, ok, want)
	}
}

func isRun(t *testing.T, many int, set []bool, l []string, want []string) {
	t.Helper()
	if got, ok := impl.RunSwitches(many, set, l); !ok || !slices.Equal(got, want) {
		t.Fatalf("RunSwitches(%d, %v, %q): %q %t, not %q", many, set, l, got, ok, want)
	}
}

func isRouted(t *testing.T, order []int, want []bool) {
	t.Helper()
	if got, ok := impl.RouteOrder(order); !ok || !slices.Equal(got, want) {
		t.Fatalf("RouteOrder(%v): %v %t, not %v", order, got, ok, want)
	}
}

// settingsOf reads 1 for a switch that is set, 0 for one that is not, and
// nothing for a space.
func settingsOf(s string) []bool {
	var out []bool
	for _, c := range s {
		if c != ' ' {
			out = append(out, c == '1')
		}
	}
	return out
}

func TestPortLimits(t *testing.T) {
	if impl.MaxPorts != 8 {
		t.Error(impl.MaxPorts)
	}
}

func TestEachOrderIsOne(t *testing.T) {
	for _, order := range someOrders() {
		if !impl.IsOrder(order) {
			t.Fatal(order)
		}
	}
	if !impl.IsOrder(nil) || !impl.IsOrder([]int{}) || !impl.IsOrder(backwardsOrder(impl.MaxOrder)) {
		t.Error("an order is told to be none")
	}
}

func TestWrongOrdersAreNone(t *testing.T) {
	for _, order := range wrongOrders() {
		if impl.IsOrder(order) {
			t.Fatal(order)
		}
	}
}

// Of all lists of up to four numbers about their range just the orders are
// orders.
func TestWhichListsAreOrders(t *testing.T) {
	for many := range 5 {
		lists, found := 1, 0
		for range many {
			lists *= many + 2
		}
		for n := range lists {
			var order []int
			for range many {
				order = append(order, n%(many+2)-1)
				n /= many + 2
			}
			is := slices.Equal(slices.Sorted(slices.Values(order)), risingOrder(many))
			if impl.IsOrder(order) != is {
				t.Fatalf("IsOrder(%v) is not %t", order, is)
			}
			if is {
				found++
			}
		}
		if found != factorial(many) {
			t.Errorf("%d orders of %d", found, many)
		}
	}
}

func TestAppliesByHand(t *testing.T) {
	isApplied(t, nil, nil, nil)
	isApplied(t, []int{0}, []string{"a"}, []string{"a"})
	isApplied(t, []int{1, 2, 0}, []string{"a", "b", "c"}, []string{"b", "c", "a"})
	isApplied(t, []int{3, 1, 0, 2}, []string{"a", "b", "c", "d"}, []string{"d", "b", "a", "c"})
	isApplied(t, []int{1, 0, 2}, []string{"same", "same", ""}, []string{"same", "same", ""})
	isApplied(t, backwardsOrder(9), placesOf(9), []string{"i", "h", "g", "f", "e", "d", "c", "b", "a"})
}

func TestAppliesAreAsSaid(t *testing.T) {
	for _, order := range someOrders() {
		for _, l := range textListsOf(len(order)) {
			isApplied(t, order, l, appliedThere(order, l))
		}
		isApplied(t, risingOrder(len(order)), numbersAsTexts(len(order)), numbersAsTexts(len(order)))
	}
}

func TestThensByHand(t *testing.T) {
	isThen(t, nil, nil, nil)
	isThen(t, []int{0}, []int{0}, []int{0})
	isThen(t, []int{1, 2, 0}, []int{0, 2, 1}, []int{1, 0, 2})
	isThen(t, []int{0, 2, 1}, []int{1, 2, 0}, []int{2, 1, 0})
	isThen(t, []int{1, 2, 0}, []int{1, 2, 0}, []int{2, 0, 1})
	isThen(t, backwardsOrder(9), backwardsOrder(9), risingOrder(9))
}

// behindEachOther holds all that is said of two orders of one length.
func behindEachOther(t *testing.T, a []int, b []int) {
	t.Helper()
	isThen(t, a, b, thenThere(a, b))
	then, _ := impl.ThenOrder(a, b)
	l := numbersAsTexts(len(a))
	first, _ := impl.ApplyOrder(a, l)
	second, ok := impl.ApplyOrder(b, first)
	if !ok {
		t.Fatal(a, b)
	}
	isApplied(t, then, l, second)
	one, ok := impl.SignOf(a)
	other, is := impl.SignOf(b)
	if !ok || !is {
		t.Fatal(a, b)
	}
	hasSign(t, then, one*other)
}

func TestSignsMultiply(t *testing.T) {
	for many := range 6 {
		for a := range eachOrderOf(many) {
			for b := range eachOrderOf(many) {
				behindEachOther(t, a, b)
			}
		}
	}
	r := rand.New(rand.NewSource(91))
	for many := 6; many <= impl.MaxOrder; many++ {
		for range 1000 {
			behindEachOther(t, r.Perm(many), r.Perm(many))
		}
		behindEachOther(t, backwardsOrder(many), ringOrder(many))
		behindEachOther(t, ringOrder(many), ringOrder(many))
	}
}

func TestThreeOrdersBehindEachOther(t *testing.T) {
	r := rand.New(rand.NewSource(92))
	for n := range 500 {
		many := n % (impl.MaxOrder + 1)
		a, b, c := r.Perm(many), r.Perm(many), r.Perm(many)
		ab, _ := impl.ThenOrder(a, b)
		bc, _ := impl.ThenOrder(b, c)
		left, ok := impl.ThenOrder(ab, c)
		if !ok {
			t.Fatal(a, b, c)
		}
		isThen(t, a, bc, left)
	}
}

func TestBacksByHand(t *testing.T) {
	isBack(t, nil, nil)
	isBack(t, []int{0}, []int{0})
	isBack(t, []int{1, 0}, []int{1, 0})
	isBack(t, []int{1, 2, 0}, []int{2, 0, 1})
	isBack(t, []int{3, 1, 0, 2}, []int{2, 1, 3, 0})
	isBack(t, ringOrder(9), []int{8, 0, 1, 2, 3, 4, 5, 6, 7})
}

func TestBackUndoesIt(t *testing.T) {
	for _, order := range someOrders() {
		back, ok := impl.BackOrder(order)
		if !ok {
			t.Fatal(order)
		}
		isThen(t, order, back, risingOrder(len(order)))
		isThen(t, back, order, risingOrder(len(order)))
		isBack(t, back, order)
		for _, l := range textListsOf(len(order)) {
			isApplied(t, back, appliedThere(order, l), l)
			isApplied(t, order, appliedThere(back, l), l)
		}
	}
}

func TestCyclesByHand(t *testing.T) {
	isInCycles(t, nil, nil)
	isInCycles(t, []int{0}, [][]int{{0}})
	isInCycles(t, []int{0, 1, 2}, [][]int{{0}, {1}, {2}})
	isInCycles(t, []int{1, 2, 0}, [][]int{{0, 1, 2}})
	isInCycles(t, []int{2, 0, 1}, [][]int{{0, 2, 1}})
	isInCycles(t, []int{3, 1, 0, 2}, [][]int{{0, 3, 2}, {1}})
	isInCycles(t, []int{0, 4, 2, 5, 1, 3}, [][]int{{0}, {1, 4}, {2}, {3, 5}})
	isInCycles(t, []int{8, 7, 6, 5, 4, 3, 2, 1, 0}, [][]int{{0, 8}, {1, 7}, {2, 6}, {3, 5}, {4}})
	isInCycles(t, []int{8, 0, 1, 2, 3, 4, 5, 6, 7}, [][]int{{0, 8, 7, 6, 5, 4, 3, 2, 1}})
}

// cyclesAreAsSaid asks for what the chapter says of cycles, word by word.
func cyclesAreAsSaid(t *testing.T, order []int) {
	t.Helper()
	cycles, ok := impl.CyclesOf(order)
	if !ok {
		t.Fatal(order)
	}
	ahead := -1
	for _, cycle := range cycles {
		if len(cycle) == 0 || slices.Min(cycle) != cycle[0] || cycle[0] <= ahead {
			t.Fatal(order, cycles)
		}
		ahead = cycle[0]
		for i, n := range cycle {
			if order[n] != cycle[(i+1)%len(cycle)] {
				t.Fatal(order, cycles)
			}
		}
	}
	if all := slices.Concat(cycles...); !slices.Equal(slices.Sorted(slices.Values(all)), risingOrder(len(order))) {
		t.Fatal(order, cycles)
	}
}

func TestCyclesOfEachOrder(t *testing.T) {
	for many := range 8 {
		for order := range eachOrderOf(many) {
			cyclesAreAsSaid(t, order)
		}
	}
	for _, order := range someOrders() {
		cyclesAreAsSaid(t, order)
		isInCycles(t, order, cyclesThere(order))
	}
}

func TestSignsByHand(t *testing.T) {
	hasSign(t, nil, 1)
	hasSign(t, []int{0}, 1)
	hasSign(t, []int{1, 0}, -1)
	hasSign(t, []int{1, 2, 0}, 1)
	hasSign(t, []int{1, 0, 3, 2}, 1)
	hasSign(t, []int{1, 2, 3, 0}, -1)
	hasSign(t, []int{3, 1, 0, 2}, 1)
	hasSign(t, ringsTogether(2, 3, 4), 1)
	hasSign(t, ringsTogether(2, 3, 3), -1)
	for many := range impl.MaxOrder + 1 {
		hasSign(t, risingOrder(many), 1)
		for a := range many {
			for b := range a {
				hasSign(t, crossedOrder(many, a, b), -1)
			}
		}
	}
}

func TestSignsAreThoseOfPairsOutOfOrder(t *testing.T) {
	for many := range 8 {
		for order := range eachOrderOf(many) {
			hasSign(t, order, signThere(order))
		}
	}
	for _, order := range someOrders() {
		hasSign(t, order, signThere(order))
		back, _ := impl.BackOrder(order)
		hasSign(t, back, signThere(order))
	}
}

func TestLengthsByHand(t *testing.T) {
	hasLength(t, nil, 1)
	hasLength(t, []int{1, 0}, 2)
	hasLength(t, []int{3, 1, 0, 2}, 3)
	hasLength(t, ringsTogether(2, 3, 4), 12)
	hasLength(t, ringsTogether(4, 3, 2), 12)
	hasLength(t, ringsTogether(2, 4), 4)
	hasLength(t, ringsTogether(4, 4), 4)
	hasLength(t, ringsTogether(2, 2, 2, 2), 2)
	hasLength(t, ringsTogether(4, 5), 20)
	hasLength(t, ringsTogether(6, 3), 6)
	hasLength(t, ringsTogether(2, 7), 14)
	hasLength(t, ringsTogether(1, 2, 1, 5), 10)
	for many := 1; many <= impl.MaxOrder; many++ {
		hasLength(t, risingOrder(many), 1)
		hasLength(t, ringOrder(many), many)
	}
	for a := 1; a <= impl.MaxOrder; a++ {
		for b := 1; a+b <= impl.MaxOrder; b++ {
			both := max(a, b)
			for both%a != 0 || both%b != 0 {
				both++
			}
			hasLength(t, ringsTogether(a, b), both)
		}
	}
}

// Fewer times over it is not the rising one.
func TestSoManyTimesOverIsTheRisingOne(t *testing.T) {
	for _, order := range someOrders() {
		length, ok := impl.LengthOf(order)
		if !ok || length < 1 {
			t.Fatal(order, length, ok)
		}
		over := order
		for k := 1; k <= length; k++ {
			if is := slices.Equal(over, risingOrder(len(order))); is != (k == length) {
				t.Fatalf("%v is %d long, and %v after %d", order, length, over, k)
			}
			over, _ = impl.ThenOrder(over, order)
		}
		hasLength(t, order, lengthThere(order))
	}
}

func TestSwitchCounts(t *testing.T) {
	for many := -1; many <= 20; many++ {
		want, is := settingsThere[many]
		if got, ok := impl.SwitchCount(many); got != want || ok != is {
			t.Errorf("SwitchCount(%d): %d %t", many, got, ok)
		}
	}
}

func TestSwitchesByHand(t *testing.T) {
	four := []string{"a", "b", "c", "d"}
	isRun(t, 1, nil, []string{"a"}, []string{"a"})
	isRun(t, 2, settingsOf("0"), []string{"a", "b"}, []string{"a", "b"})
	isRun(t, 2, settingsOf("1"), []string{"a", "b"}, []string{"b", "a"})
	isRun(t, 4, settingsOf("00 0 0 00"), four, four)
	isRun(t, 4, settingsOf("10 0 0 00"), four, []string{"b", "a", "c", "d"})
	isRun(t, 4, settingsOf("01 0 0 00"), four, []string{"a", "b", "d", "c"})
	isRun(t, 4, settingsOf("00 1 0 00"), four, []string{"c", "b", "a", "d"})
	isRun(t, 4, settingsOf("00 0 1 00"), four, []string{"a", "d", "c", "b"})
	isRun(t, 4, settingsOf("00 0 0 10"), four, []string{"b", "a", "c", "d"})
	isRun(t, 4, settingsOf("00 0 0 01"), four, []string{"a", "b", "d", "c"})
	isRun(t, 4, settingsOf("11 1 1 11"), four, []string{"c", "d", "a", "b"})
	isRun(t, 4, settingsOf("10 1 0 01"), four, []string{"c", "a", "d", "b"})
}

// For 8 the upper half has the places 0, 2, 4 and 6, and is as for 4.
func TestSwitchesOfEightByHand(t *testing.T) {
	eight := placesOf(8)
	isSo := func(set string, want string) {
		t.Helper()
		var l []string
		for _, c := range want {
			l = append(l, string(c))
		}
		isRun(t, 8, settingsOf(set), eight, l)
	}
	isSo("0000 000000 000000 0000", "abcdefgh")
	isSo("1000 000000 000000 0000", "bacdefgh")
	isSo("0100 000000 000000 0000", "abdcefgh")
	isSo("0010 000000 000000 0000", "abcdfegh")
	isSo("0001 000000 000000 0000", "abcdefhg")
	isSo("0000 100000 000000 0000", "cbadefgh")
	isSo("0000 010000 000000 0000", "abcdgfeh")
	isSo("0000 001000 000000 0000", "ebcdafgh")
	isSo("0000 000100 000000 0000", "abgdefch")
	isSo("0000 000010 000000 0000", "cbadefgh")
	isSo("0000 000001 000000 0000", "abcdgfeh")
	isSo("0000 000000 100000 0000", "adcbefgh")
	isSo("0000 000000 010000 0000", "abcdehgf")
	isSo("0000 000000 001000 0000", "afcdebgh")
	isSo("0000 000000 000100 0000", "abchefgd")
	isSo("0000 000000 000010 0000", "adcbefgh")
	isSo("0000 000000 000001 0000", "abcdehgf")
	isSo("0000 000000 000000 1000", "bacdefgh")
	isSo("0000 000000 000000 0100", "abdcefgh")
	isSo("0000 000000 000000 0010", "abcdfegh")
	isSo("0000 000000 000000 0001", "abcdefhg")
	isSo("1111 000000 000000 1111", "abcdefgh")
	isSo("1111 111111 111111 1111", "efghabcd")
}

func TestRunsAreAsSaid(t *testing.T) {
	for _, many := range portNumbers {
		for _, set := range settingsFor(many) {
			for _, l := range textListsOf(many) {
				isRun(t, many, set, l, ranThere(many, set, l))
			}
		}
	}
	for n := range 1 << settingsThere[4] {
		set := bitsOfNumber(n, settingsThere[4])
		isRun(t, 4, set, placesOf(4), ranThere(4, set, placesOf(4)))
	}
}

// Whatever is set, all texts go out, each as often as it came in.
func TestRunsLoseNothing(t *testing.T) {
	for _, many := range portNumbers {
		for _, set := range settingsFor(many) {
			for _, l := range textListsOf(many) {
				got, ok := impl.RunSwitches(many, set, l)
				if !ok || !slices.Equal(sortedThere(got), sortedThere(l)) {
					t.Fatal(many, set, l, got, ok)
				}
			}
		}
	}
}

func TestRoutesByHand(t *testing.T) {
	isRouted(t, []int{0}, nil)
	isRouted(t, []int{0, 1}, settingsOf("0"))
	isRouted(t, []int{1, 0}, settingsOf("1"))
	isRouted(t, []int{0, 1, 2, 3}, settingsOf("00 0 0 00"))
	isRouted(t, []int{1, 0, 2, 3}, settingsOf("10 0 0 00"))
	isRouted(t, []int{0, 1, 3, 2}, settingsOf("01 0 0 00"))
	isRouted(t, []int{3, 1, 0, 2}, settingsOf("01 1 0 00"))
	isRouted(t, []int{3, 2, 1, 0}, settingsOf("11 1 1 00"))
	isRouted(t, []int{0, 2, 1, 3}, settingsOf("01 0 1 01"))
	isRouted(t, []int{2, 3, 0, 1}, settingsOf("00 1 1 00"))
	isRouted(t, risingOrder(8), make([]bool, 20))
	isRouted(t, backwardsOrder(8), settingsOf("1111 111100 111100 0000"))
}

// isMade asks whether the settings that are told make the order.
func isMade(t *testing.T, order []int) []bool {
	t.Helper()
	many := len(order)
	set, ok := impl.RouteOrder(order)
	if !ok || len(set) != settingsThere[many] {
		t.Fatal(order, set, ok)
	}
	l := placesOf(many)
	want, is := impl.ApplyOrder(order, l)
	if !is || !slices.Equal(want, appliedThere(order, l)) {
		t.Fatal(order, want)
	}
	isRun(t, many, set, l, want)
	return set
}

func TestEveryOrderIsMadeBySwitches(t *testing.T) {
	for _, many := range portNumbers {
		for order := range eachOrderOf(many) {
			isMade(t, order)
		}
	}
	for _, order := range ordersOfPorts() {
		set := isMade(t, order)
		for _, l := range textListsOf(len(order)) {
			isRun(t, len(order), set, l, appliedThere(order, l))
		}
	}
}

func TestRoutesAreMadeAsSaid(t *testing.T) {
	for _, many := range portNumbers {
		for order := range eachOrderOf(many) {
			isRouted(t, order, routeThere(order))
		}
	}
}

// takenFrom follows what each place takes back to the half it came by: true
// for the lower one.
func takenFrom(set []bool, order []int) []bool {
	var out []bool
	for _, from := range order {
		out = append(out, (from%2 == 1) != set[from/2])
	}
	return out
}

// The least place of those that are bound to each other takes from the upper
// half, and so the first switch of the last row is never set.
func TestTheLeastPlaceTakesFromTheUpperHalf(t *testing.T) {
	for _, many := range []int{4, 8} {
		for order := range eachOrderOf(many) {
			set, ok := impl.RouteOrder(order)
			if !ok || set[len(set)-many/2] {
				t.Fatal(order, set, ok)
			}
			isLower := takenFrom(set, order)
			for place, least := range loopsThere(order) {
				if isLower[least] || isLower[place] == isLower[place^1] {
					t.Fatal(order, set, place)
				}
			}
		}
	}
}

// The settings between the rows are those of RouteOrder, for each half.
func TestHalvesAreRoutedLikewise(t *testing.T) {
	for order := range eachOrderOf(8) {
		set, ok := impl.RouteOrder(order)
		if !ok {
			t.Fatal(order)
		}
		var upper, lower []int
		isLower := takenFrom(set, order)
		for place, from := range order {
			if isLower[place] {
				lower = append(lower, from/2)
			} else {
				upper = append(upper, from/2)
			}
		}
		isRouted(t, upper, set[4:10])
		isRouted(t, lower, set[10:16])
	}
}
