package tests

import (
	"math/rand"
	"slices"
	"strings"
	"testing"

	"loop.example/g00549/impl"
)

// switched is what a function of chapter 9 tells, whichever it is.
type switched struct {
	order  []int
	cycles [][]int
	n      int
	texts  []string
	set    []bool
	ok     bool
}

// switchCall is one call of a function of chapter 9; other is the b of
// ThenOrder.
type switchCall struct {
	name  string
	order []int
	other []int
	many  int
	set   []bool
	texts []string
}

func (c switchCall) run() switched {
	var out switched
	switch c.name {
	case "IsOrder":
		out.ok = impl.IsOrder(c.order)
	case "ThenOrder":
		out.order, out.ok = impl.ThenOrder(c.order, c.other)
	case "BackOrder":
		out.order, out.ok = impl.BackOrder(c.order)
	case "CyclesOf":
		out.cycles, out.ok = impl.CyclesOf(c.order)
	case "SignOf":
		out.n, out.ok = impl.SignOf(c.order)
	case "LengthOf":
		out.n, out.ok = impl.LengthOf(c.order)
	case "ApplyOrder":
		out.texts, out.ok = impl.ApplyOrder(c.order, c.texts)
	case "SwitchCount":
		out.n, out.ok = impl.SwitchCount(c.many)
	case "RouteOrder":
		out.set, out.ok = impl.RouteOrder(c.order)
	case "RunSwitches":
		out.texts, out.ok = impl.RunSwitches(c.many, c.set, c.texts)
	}
	return out
}

func (c switchCall) isLong() bool {
	return len(c.order) > 200 || len(c.other) > 200 || len(c.set) > 200 || len(c.texts) > 200
}

func (x switched) isAlike(y switched) bool {
	return slices.Equal(x.order, y.order) && slices.EqualFunc(x.cycles, y.cycles, slices.Equal[[]int]) && x.n == y.n && slices.Equal(x.texts, y.texts) && slices.Equal(x.set, y.set) && x.ok == y.ok
}

func isRefusedSwitch(t *testing.T, c switchCall) {
	t.Helper()
	if got := c.run(); !got.isAlike(switched{}) {
		if c.isLong() {
			c = switchCall{name: c.name + " of very many"}
		}
		t.Fatalf("%+v: %+v", c, got)
	}
}

// ofOrder are calls with the order of each function that takes one alone.
func ofOrder(order []int) []switchCall {
	var out []switchCall
	for _, name := range []string{"IsOrder", "BackOrder", "CyclesOf", "SignOf", "LengthOf", "RouteOrder"} {
		out = append(out, switchCall{name: name, order: order})
	}
	return out
}

func TestWhatIsNoOrderGetsTheZeroAnswer(t *testing.T) {
	for _, order := range wrongOrders() {
		for _, c := range ofOrder(order) {
			isRefusedSwitch(t, c)
		}
		isRefusedSwitch(t, switchCall{name: "ApplyOrder", order: order, texts: numbersAsTexts(len(order))})
		isRefusedSwitch(t, switchCall{name: "ThenOrder", order: order, other: order})
		isRefusedSwitch(t, switchCall{name: "ThenOrder", order: order, other: risingOrder(len(order))})
		isRefusedSwitch(t, switchCall{name: "ThenOrder", order: risingOrder(len(order)), other: order})
	}
}

// One number of an order is another: then it is none, at whatever place.
func TestOneWrongNumberInAnOrder(t *testing.T) {
	for many := 1; many <= impl.MaxOrder; many++ {
		for at := range many {
			for wrong := -3; wrong < many+3; wrong++ {
				order := backwardsOrder(many)
				if order[at] == wrong {
					continue
				}
				order[at] = wrong
				for _, c := range ofOrder(order) {
					isRefusedSwitch(t, c)
				}
				isRefusedSwitch(t, switchCall{name: "ApplyOrder", order: order, texts: numbersAsTexts(many)})
				isRefusedSwitch(t, switchCall{name: "ThenOrder", order: order, other: ringOrder(many)})
				isRefusedSwitch(t, switchCall{name: "ThenOrder", order: ringOrder(many), other: order})
			}
		}
	}
}

func TestOrdersOfUnlikeLengths(t *testing.T) {
	for a := range impl.MaxOrder + 3 {
		for b := range impl.MaxOrder + 3 {
			if a != b || a > impl.MaxOrder {
				isRefusedSwitch(t, switchCall{name: "ThenOrder", order: risingOrder(a), other: risingOrder(b)})
				isRefusedSwitch(t, switchCall{name: "ThenOrder", order: backwardsOrder(a), other: backwardsOrder(b)})
				isRefusedSwitch(t, switchCall{name: "ApplyOrder", order: risingOrder(a), texts: numbersAsTexts(b)})
				isRefusedSwitch(t, switchCall{name: "ApplyOrder", order: backwardsOrder(a), texts: make([]string, b)})
			}
		}
	}
	isRefusedSwitch(t, switchCall{name: "ApplyOrder", order: risingOrder(3), texts: make([]string, 100000)})
	isRefusedSwitch(t, switchCall{name: "ApplyOrder", order: risingOrder(100000), texts: make([]string, 100000)})
	isRefusedSwitch(t, switchCall{name: "ThenOrder", order: risingOrder(100000), other: risingOrder(100000)})
}

func TestOrdersOfNoPortsAreNotRouted(t *testing.T) {
	for _, many := range []int{0, 3, 5, 6, 7, 9} {
		isRefusedSwitch(t, switchCall{name: "RouteOrder", order: risingOrder(many)})
		isRefusedSwitch(t, switchCall{name: "RouteOrder", order: backwardsOrder(many)})
	}
	for _, order := range someOrders() {
		if !slices.Contains(portNumbers, len(order)) {
			isRefusedSwitch(t, switchCall{name: "RouteOrder", order: order})
		}
	}
	for _, many := range []int{10, 12, 16, 32, 64, 100000} {
		isRefusedSwitch(t, switchCall{name: "RouteOrder", order: risingOrder(many)})
	}
}

func TestNoNumberOfPorts(t *testing.T) {
	for _, many := range noPorts() {
		isRefusedSwitch(t, switchCall{name: "SwitchCount", many: many})
		for _, settings := range []int{0, 1, 2, 3, 4, 6, 8, 20, 56} {
			for _, texts := range []int{0, 1, 2, 3, 4, 8, 9, 16} {
				isRefusedSwitch(t, switchCall{name: "RunSwitches", many: many, set: make([]bool, settings), texts: numbersAsTexts(texts)})
			}
		}
		if many >= 0 && many < 1000 {
			isRefusedSwitch(t, switchCall{name: "RunSwitches", many: many, set: make([]bool, 2*many), texts: make([]string, many)})
		}
	}
}

func TestFewerOrMoreSettingsOrTexts(t *testing.T) {
	for _, many := range portNumbers {
		for settings := range 30 {
			for texts := range 20 {
				if settings != settingsThere[many] || texts != many {
					isRefusedSwitch(t, switchCall{name: "RunSwitches", many: many, set: slices.Repeat([]bool{true}, settings), texts: numbersAsTexts(texts)})
				}
			}
		}
		isRefusedSwitch(t, switchCall{name: "RunSwitches", many: many, set: make([]bool, 100000), texts: numbersAsTexts(many)})
		isRefusedSwitch(t, switchCall{name: "RunSwitches", many: many, set: make([]bool, settingsThere[many]), texts: make([]string, 100000)})
	}
}

// anySwitchCalls are calls of each function, good ones and others.
func anySwitchCalls() []switchCall {
	r := rand.New(rand.NewSource(99))
	var out []switchCall
	for _, order := range append(someOrders(), wrongOrders()...) {
		many := len(order)
		out = append(out, ofOrder(order)...)
		out = append(out, switchCall{name: "ApplyOrder", order: order, texts: numbersAsTexts(many)}, switchCall{name: "ApplyOrder", order: order, texts: numbersAsTexts(many + 1)})
		out = append(out, switchCall{name: "ThenOrder", order: order, other: r.Perm(many)}, switchCall{name: "ThenOrder", order: r.Perm(many), other: order}, switchCall{name: "ThenOrder", order: order, other: order})
	}
	for _, many := range append(noPorts(), portNumbers...) {
		out = append(out, switchCall{name: "SwitchCount", many: many}, switchCall{name: "RunSwitches", many: many}, switchCall{name: "RunSwitches", many: many, set: make([]bool, 6), texts: placesOf(4)})
	}
	for _, many := range portNumbers {
		for _, set := range settingsFor(many) {
			for _, texts := range textListsOf(many) {
				out = append(out, switchCall{name: "RunSwitches", many: many, set: set, texts: texts})
			}
			out = append(out, switchCall{name: "RunSwitches", many: many, set: set, texts: numbersAsTexts(many - 1)}, switchCall{name: "RunSwitches", many: many, set: append(slices.Clone(set), true), texts: numbersAsTexts(many)})
		}
	}
	return slices.DeleteFunc(out, switchCall.isLong)
}

// withRoomBehind is c with other memory behind each of its lists, and all of
// that memory.
func (c switchCall) withRoomBehind() (switchCall, switchCall) {
	held := c
	c.order, held.order = withRoom(c.order, 7)
	c.other, held.other = withRoom(c.other, 5)
	c.set, held.set = withRoom(c.set, true)
	c.texts, held.texts = withRoom(c.texts, "behind")
	return c, held
}

func (c switchCall) clone() switchCall {
	c.order, c.other, c.set, c.texts = slices.Clone(c.order), slices.Clone(c.other), slices.Clone(c.set), slices.Clone(c.texts)
	return c
}

func (c switchCall) isKept(was switchCall) bool {
	return slices.Equal(c.order, was.order) && slices.Equal(c.other, was.other) && slices.Equal(c.set, was.set) && slices.Equal(c.texts, was.texts)
}

func (x switched) handsOutBehind() bool {
	for _, l := range append([][]int{x.order}, x.cycles...) {
		if slices.Max(append(slices.Clone(l[len(l):cap(l)]), 0)) != 0 {
			return true
		}
	}
	for _, l := range x.cycles[len(x.cycles):cap(x.cycles)] {
		if l != nil {
			return true
		}
	}
	return slices.Contains(x.set[len(x.set):cap(x.set)], true) || strings.Join(x.texts[len(x.texts):cap(x.texts)], "") != ""
}

func (x switched) scribble() {
	for _, l := range append([][]int{x.order}, x.cycles...) {
		scribbleOver(l, func(n int) int { return n + 77 })
	}
	scribbleOver(x.cycles, func([]int) []int { return []int{77} })
	scribbleOver(x.set, func(is bool) bool { return !is })
	scribbleOver(x.texts, func(s string) string { return s + "!" })
}

func TestSwitchesNeitherWriteNorShare(t *testing.T) {
	for _, c := range anySwitchCalls() {
		given, held := c.withRoomBehind()
		was := held.clone()
		got := given.run()
		if !held.isKept(was) {
			t.Fatalf("%+v writes into an argument", c)
		}
		if !got.isAlike(c.run()) {
			t.Fatalf("%+v hangs on what lies behind the lists", c)
		}
		if got.handsOutBehind() {
			t.Fatalf("%+v hands out what lies behind", c)
		}
		got.scribble()
		if !held.isKept(was) {
			t.Fatalf("%+v shares memory with an argument", c)
		}
		if !given.run().isAlike(c.run()) {
			t.Fatalf("%+v is another one the second time", c)
		}
	}
}

func TestCyclesOfOneAnswerShareNothing(t *testing.T) {
	for _, order := range someOrders() {
		cycles, _ := impl.CyclesOf(order)
		for at := range cycles {
			got, _ := impl.CyclesOf(order)
			scribbleOver(got[at], func(n int) int { return n + 77 })
			for i, cycle := range got {
				if i != at && !slices.Equal(cycle, cycles[i]) {
					t.Fatalf("%v: cycle %d is cycle %d's memory, too", order, i, at)
				}
			}
		}
	}
}

func TestTextsOfASwitchAnswerAreNewOnes(t *testing.T) {
	for _, c := range anySwitchCalls() {
		given := dataOf(c.texts)
		for _, at := range dataOf(c.run().texts) {
			if slices.Contains(given, at) {
				t.Fatalf("%+v tells a text that is an argument's memory", c)
			}
		}
	}
}

// Both orders of ThenOrder may be one list, or parts of one.
func TestOrdersThatShareMemory(t *testing.T) {
	all := []int{1, 2, 0, 1, 2, 0}
	isThen(t, all[:3], all[:3], []int{2, 0, 1})
	isThen(t, all[1:4], all[2:5], []int{2, 0, 1})
	isThen(t, all[1:4], all[:3], []int{0, 1, 2})
	if !slices.Equal(all, []int{1, 2, 0, 1, 2, 0}) {
		t.Error(all)
	}
}

func TestNoNumbersAndNoSettingsAreTheNilOnes(t *testing.T) {
	for _, c := range anySwitchCalls() {
		empty := c
		empty.order, empty.other = append([]int{}, c.order...), append([]int{}, c.other...)
		empty.set, empty.texts = append([]bool{}, c.set...), append([]string{}, c.texts...)
		if !empty.run().isAlike(c.run()) {
			t.Fatalf("%+v", c)
		}
	}
}
