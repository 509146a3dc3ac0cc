package tests

import (
	"math/rand"
	"slices"
	"testing"

	"loop.example/g00549/impl"
)

// tabled is what a function of chapter 15 tells, whichever it is.
type tabled struct {
	t      impl.Table
	nums   []int
	groups [][]int
	n      int
	ok     bool
}

// tableCall is one call of a function of chapter 15; a and b are two seats, or
// a seat and who speaks; l is words, or what was said.
type tableCall struct {
	name string
	t    impl.Table
	a    int
	b    int
	word int
	l    []int
}

func (c tableCall) run() tabled {
	var out tabled
	switch c.name {
	case "GoodTable":
		out.ok = impl.GoodTable(c.t)
	case "SayAt":
		out.n, out.ok = impl.SayAt(c.t, c.a, c.b, c.word)
	case "AllSay":
		out.nums, out.ok = impl.AllSay(c.t, c.b, c.word)
	case "SumOf":
		out.n, out.ok = impl.SumOf(c.l)
	case "WayBetween":
		out.nums, out.ok = impl.WayBetween(c.t, c.a, c.b)
	case "OtherCoins":
		out.t, out.ok = impl.OtherCoins(c.t, c.a, c.b, c.word)
	case "TogetherSay":
		out.nums, out.ok = impl.TogetherSay(c.t, c.l)
	case "GroupsOf":
		out.groups, out.ok = impl.GroupsOf(c.t)
	}
	return out
}

func (c tableCall) isLong() bool {
	return max(len(c.t.Pairs), len(c.t.Coins), len(c.l)) > 100
}

func (x tabled) isAlike(y tabled) bool {
	return alikeTables(x.t, y.t) && slices.Equal(x.nums, y.nums) && slices.EqualFunc(x.groups, y.groups, slices.Equal[[]int]) && x.n == y.n && x.ok == y.ok
}

func isRefusedTable(t *testing.T, c tableCall) {
	t.Helper()
	if got := c.run(); !got.isAlike(tabled{}) {
		if c.isLong() {
			c = tableCall{name: c.name + " of very many"}
		}
		t.Fatalf("%+v: %+v", c, got)
	}
}

func TestWrongTablesGetTheZeroAnswer(t *testing.T) {
	for _, x := range wrongTables() {
		isRefusedTable(t, tableCall{name: "GoodTable", t: x})
		isRefusedTable(t, tableCall{name: "GroupsOf", t: x})
		isRefusedTable(t, tableCall{name: "TogetherSay", t: x, l: make([]int, min(max(x.Seats, 0), impl.MaxSeats))})
		for _, a := range []int{nobody, 0, 1, x.Seats - 1} {
			for _, b := range []int{nobody, 0, x.Seats - 1} {
				for _, name := range []string{"SayAt", "AllSay", "WayBetween", "OtherCoins"} {
					isRefusedTable(t, tableCall{name: name, t: x, a: a, b: b, word: 3})
				}
			}
		}
	}
}

func TestWrongSeatsSayNothing(t *testing.T) {
	for _, x := range plainTables() {
		for _, wrong := range wrongSeats(x.Seats) {
			for _, word := range wordsToTry() {
				isRefusedTable(t, tableCall{name: "AllSay", t: x, b: wrong, word: word})
				for seat := range x.Seats {
					isRefusedTable(t, tableCall{name: "SayAt", t: x, a: seat, b: wrong, word: word})
				}
				for who := nobody; who < x.Seats; who++ {
					isRefusedTable(t, tableCall{name: "SayAt", t: x, a: wrong, b: who, word: word})
				}
			}
		}
		for who := nobody; who < x.Seats; who++ {
			isRefusedTable(t, tableCall{name: "SayAt", t: x, a: nobody, b: who, word: 7})
		}
	}
}

func TestWrongSeatsHaveNoWays(t *testing.T) {
	for _, x := range plainTables() {
		for _, wrong := range append(wrongSeats(x.Seats), nobody) {
			for _, name := range []string{"WayBetween", "OtherCoins"} {
				isRefusedTable(t, tableCall{name: name, t: x, a: wrong, b: wrong, word: 1})
				for seat := range x.Seats {
					isRefusedTable(t, tableCall{name: name, t: x, a: seat, b: wrong, word: 1})
					isRefusedTable(t, tableCall{name: name, t: x, a: wrong, b: seat, word: 1})
				}
			}
		}
	}
}

// Wrong ones are refused of nobody, too, who doesn't say them, and where there
// is no pair that they would turn.
func TestWrongWordsAreNotSaid(t *testing.T) {
	for _, x := range plainTables() {
		for _, wrong := range wrongWords() {
			for who := nobody; who < x.Seats; who++ {
				isRefusedTable(t, tableCall{name: "AllSay", t: x, b: who, word: wrong})
				for seat := range x.Seats {
					isRefusedTable(t, tableCall{name: "SayAt", t: x, a: seat, b: who, word: wrong})
					isRefusedTable(t, tableCall{name: "OtherCoins", t: x, a: seat, b: max(who, 0), word: wrong})
				}
			}
			for at := range x.Seats {
				words := slices.Repeat([]int{5}, x.Seats)
				words[at] = wrong
				isRefusedTable(t, tableCall{name: "TogetherSay", t: x, l: words})
				isRefusedTable(t, tableCall{name: "SumOf", l: words})
			}
		}
	}
}

func TestAsManyWordsAsSeats(t *testing.T) {
	for _, x := range plainTables() {
		for many := range 2*impl.MaxSeats + 2 {
			if many == x.Seats {
				areSaidTogether(t, x, make([]int, many), saidThere(x, make([]int, many))...)
			} else {
				isRefusedTable(t, tableCall{name: "TogetherSay", t: x, l: make([]int, many)})
			}
		}
		isRefusedTable(t, tableCall{name: "TogetherSay", t: x, l: make([]int, 100000)})
	}
}

func TestWrongNumbersHaveNoSum(t *testing.T) {
	for _, l := range wrongAmong(7, wrongWords(), impl.MaxSeats) {
		isRefusedTable(t, tableCall{name: "SumOf", l: l})
	}
	for _, many := range []int{impl.MaxSeats + 1, impl.MaxSeats + 2, 256, 100000} {
		isRefusedTable(t, tableCall{name: "SumOf", l: make([]int, many)})
		isRefusedTable(t, tableCall{name: "SumOf", l: slices.Repeat([]int{mostWord}, many)})
	}
}

// Each seat, who and word at and around its ends.
func TestEachSeatWhoAndWord(t *testing.T) {
	for _, x := range []impl.Table{coined(1), coined(2, []int{0, 1}), coined(5, []int{0, 1}, []int{1, 4}), coined(6, pairsAmong(6)...)} {
		linked := linkedThere(x)
		for a := -3; a <= impl.MaxSeats+2; a++ {
			for b := -3; b <= impl.MaxSeats+2; b++ {
				isA, isB := 0 <= a && a < x.Seats, 0 <= b && b < x.Seats
				_, okWay := impl.WayBetween(x, a, b)
				if okWay != (isA && isB && linked[a][b]) {
					t.Fatalf("WayBetween(%+v, %d, %d): %v", x, a, b, okWay)
				}
				for _, word := range []int{-2, -1, 0, 1, mostWord - 1, mostWord, mostWord + 1, mostWord + 2} {
					is := isWordThere(word)
					_, okSay := impl.SayAt(x, a, b, word)
					_, okAll := impl.AllSay(x, b, word)
					_, okOther := impl.OtherCoins(x, a, b, word)
					if okSay != (is && isA && (isB || b == nobody)) || okAll != (is && (isB || b == nobody)) || okOther != (is && okWay) {
						t.Fatalf("%+v, %d, %d, %d: %v, %v, %v", x, a, b, word, okSay, okAll, okOther)
					}
				}
			}
		}
	}
}

// anyTableCalls are calls of each function, good ones and others.
func anyTableCalls() []tableCall {
	r := rand.New(rand.NewSource(1511))
	wrong := slices.DeleteFunc(wrongTables(), func(impl.Table) bool { return r.Intn(10) > 0 })
	var out []tableCall
	for _, x := range append(someTables(), wrong...) {
		out = append(out, tableCall{name: "GoodTable", t: x}, tableCall{name: "GroupsOf", t: x})
		seats := min(max(x.Seats, 1), impl.MaxSeats)
		for _, many := range []int{seats, seats - 1, seats + 1} {
			var words []int
			for range many {
				words = append(words, r.Intn(mostWord+1))
			}
			out = append(out, tableCall{name: "TogetherSay", t: x, l: words}, tableCall{name: "SumOf", l: words})
		}
		for range 6 {
			a, b, word := r.Intn(seats+2)-1, r.Intn(seats+2)-1, r.Intn(mostWord+2)
			for _, name := range []string{"SayAt", "AllSay", "WayBetween", "OtherCoins"} {
				out = append(out, tableCall{name: name, t: x, a: a, b: b, word: word})
			}
		}
	}
	out = append(out, tableCall{name: "SumOf"}, tableCall{name: "SumOf", l: []int{-1}})
	return slices.DeleteFunc(out, tableCall.isLong)
}

// withRoomBehind is c with other memory behind each of its lists, those within
// Pairs too, that would change the answer if it were read, and all of that memory.
func (c tableCall) withRoomBehind() (tableCall, tableCall, [][]int) {
	held := c
	var rows, given [][]int
	for _, row := range c.t.Pairs {
		short, all := withRoom(row, 1)
		given, rows = append(given, short), append(rows, all)
	}
	c.t.Pairs, held.t.Pairs = withRoom(given, []int{0, 1})
	c.t.Coins, held.t.Coins = withRoom(c.t.Coins, 9)
	c.l, held.l = withRoom(c.l, 5)
	return c, held, rows
}

func (c tableCall) clone() tableCall {
	c.t, c.l = cloneTable(c.t), slices.Clone(c.l)
	return c
}

func (c tableCall) isKept(was tableCall) bool {
	return alikeTables(c.t, was.t) && slices.Equal(c.l, was.l)
}

// numLists are all lists of numbers in an answer, those within others too.
func (x tabled) numLists() [][]int {
	return slices.Concat([][]int{x.nums, x.t.Coins}, x.t.Pairs, x.groups)
}

func (x tabled) handsOutBehind() bool {
	for _, l := range [][][]int{x.t.Pairs, x.groups} {
		if slices.ContainsFunc(l[len(l):cap(l)], func(row []int) bool { return row != nil }) {
			return true
		}
	}
	return slices.ContainsFunc(x.numLists(), func(l []int) bool { return !isBehindZero(l) })
}

func (x tabled) scribble() {
	for _, l := range x.numLists() {
		scribbleOver(l, func(n int) int { return n + 77 })
	}
	for _, l := range [][][]int{x.t.Pairs, x.groups} {
		scribbleOver(l, func([]int) []int { return []int{77} })
	}
}

func TestTablesNeitherWriteNorShare(t *testing.T) {
	for _, c := range anyTableCalls() {
		given, held, rows := c.withRoomBehind()
		was, wereRows := held.clone(), cloneRows(rows)
		isAsItWas := func() bool {
			return held.isKept(was) && slices.EqualFunc(rows, wereRows, slices.Equal[[]int])
		}
		got := given.run()
		if !isAsItWas() {
			t.Fatalf("%+v writes into an argument", c)
		}
		if !got.isAlike(c.run()) {
			t.Fatalf("%+v hangs on what lies behind the lists", c)
		}
		if got.handsOutBehind() {
			t.Fatalf("%+v hands out what lies behind", c)
		}
		got.scribble()
		if !isAsItWas() {
			t.Fatalf("%+v shares memory with an argument", c)
		}
		if !given.run().isAlike(c.run()) {
			t.Fatalf("%+v is another one the second time", c)
		}
	}
}

func TestListsOfOneTableAnswerShareNothing(t *testing.T) {
	for _, c := range anyTableCalls() {
		if shareMemory(c.run().numLists()) {
			t.Fatalf("%+v: two lists of one answer share memory", c)
		}
	}
}

// All lists of a table are pieces of one memory, each with the next one behind
// it, and one of them may be the words as well.
func TestTablesOfOneMemory(t *testing.T) {
	for _, x := range someTables() {
		memory := slices.Concat(slices.Concat(x.Pairs...), x.Coins, []int{1, 2, 3})
		y := impl.Table{Seats: x.Seats, Coins: memory[2*len(x.Pairs):][:len(x.Coins)]}
		for n := range x.Pairs {
			y.Pairs = append(y.Pairs, memory[2*n:][:2])
		}
		was, words := slices.Clone(memory), make([]int, x.Seats)
		if len(y.Coins) >= x.Seats {
			words = y.Coins[:x.Seats]
		}
		for _, name := range []string{"GoodTable", "GroupsOf", "SayAt", "AllSay", "WayBetween", "OtherCoins", "TogetherSay"} {
			c := tableCall{name: name, t: x, b: x.Seats - 1, word: 9, l: slices.Clone(words)}
			d := c
			d.t, d.l = y, words
			want, got := c.run(), d.run()
			if !got.isAlike(want) {
				t.Fatalf("%+v: %+v", c, got)
			}
			got.scribble()
			if !slices.Equal(memory, was) {
				t.Fatalf("%+v writes or shares", c)
			}
		}
	}
}

func TestNoListsOfTablesAreTheNilOnes(t *testing.T) {
	for _, c := range anyTableCalls() {
		empty := c
		empty.t.Pairs = append([][]int{}, c.t.Pairs...)
		empty.t.Coins = append([]int{}, c.t.Coins...)
		empty.l = append([]int{}, c.l...)
		for n := range empty.t.Pairs {
			empty.t.Pairs[n] = append([]int{}, empty.t.Pairs[n]...)
		}
		if !empty.run().isAlike(c.run()) {
			t.Fatalf("%+v", c)
		}
	}
}

func TestTablesAnswerTheSameEachTime(t *testing.T) {
	for _, c := range anyTableCalls() {
		want := c.run()
		for range 3 {
			if got := c.run(); !got.isAlike(want) {
				t.Fatalf("%+v: %+v, then %+v", c, want, got)
			}
		}
	}
}
