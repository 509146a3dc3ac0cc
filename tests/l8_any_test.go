package tests

import (
	"math"
	"math/rand"
	"slices"
	"strings"
	"testing"
	"unsafe"

	"loop.example/g00549/impl"
)

// blended is what a function of chapter 8 tells, whichever it is.
type blended struct {
	m      impl.Mix
	n      int
	texts  []string
	rounds [][]string
	ok     bool
}

// mixCall is one call of a function of chapter 8; n is a least or the number of
// a round.
type mixCall struct {
	name   string
	m      impl.Mix
	n      int
	wait   int
	s      string
	texts  []string
	rounds [][]string
}

func (c mixCall) run() blended {
	var out blended
	switch c.name {
	case "NewMix":
		out.m, out.ok = impl.NewMix(c.n, c.wait)
	case "GoodMix":
		out.ok = impl.GoodMix(c.m)
	case "PutMix":
		out.m, out.n, out.ok = impl.PutMix(c.m, c.s)
	case "TickMix":
		out.m, out.texts, out.ok = impl.TickMix(c.m)
	case "PlayMix":
		out.rounds, out.ok = impl.PlayMix(c.n, c.wait, c.rounds)
	case "TagOf":
		out.n, out.ok = impl.TagOf(c.s)
	case "SortTexts":
		out.texts, out.ok = impl.SortTexts(c.texts)
	case "SetSize":
		out.n, out.ok = impl.SetSize(c.rounds, c.n)
	}
	return out
}

func (c mixCall) isLong() bool {
	return len(c.m.Pool) > 200 || len(c.m.Seen) > 200 || len(c.texts) > 200 || len(c.rounds) > 200 || len(slices.Concat(c.rounds...)) > 1000
}

func (x blended) isAlike(y blended) bool {
	return alikeMixes(x.m, y.m) && x.n == y.n && slices.Equal(x.texts, y.texts) && alikeRounds(x.rounds, y.rounds) && x.ok == y.ok
}

func isRefusedMix(t *testing.T, c mixCall) {
	t.Helper()
	if got := c.run(); !got.isAlike(blended{}) {
		if c.isLong() {
			c = mixCall{name: c.name + " of very many"}
		}
		t.Fatalf("%#v: %#v", c, got)
	}
}

func TestWrongLeastsAndWaitsGetTheZeroAnswer(t *testing.T) {
	rounds := [][]string{{"b", "a"}, nil, {"c"}}
	isWrong := func(least int, wait int) {
		t.Helper()
		isRefusedMix(t, mixCall{name: "NewMix", n: least, wait: wait})
		isRefusedMix(t, mixCall{name: "PlayMix", n: least, wait: wait})
		isRefusedMix(t, mixCall{name: "PlayMix", n: least, wait: wait, rounds: rounds})
	}
	for _, least := range wrongLeasts() {
		for wait := 1; wait <= mostWait; wait++ {
			isWrong(least, wait)
		}
		for _, wait := range wrongWaits() {
			isWrong(least, wait)
		}
	}
	for _, wait := range wrongWaits() {
		for least := 1; least <= impl.MaxPool; least++ {
			isWrong(least, wait)
		}
	}
}

func TestWrongMixesGetTheZeroAnswer(t *testing.T) {
	for _, m := range wrongMixes() {
		isRefusedMix(t, mixCall{name: "GoodMix", m: m})
		isRefusedMix(t, mixCall{name: "TickMix", m: m})
		for _, s := range []string{"", "a", "new", strings.Repeat("\xff", mostLetter), strings.Repeat("\xff", mostLetter+1)} {
			isRefusedMix(t, mixCall{name: "PutMix", m: m, s: s})
		}
	}
}

// A text that is too long gets the zero answer where there is no room, or its
// tag would be Seen, too.
func TestTooLongTextsGetTheZeroAnswer(t *testing.T) {
	mixes := someMixes()
	for _, s := range tooLongLetters() {
		isRefusedMix(t, mixCall{name: "TagOf", s: s})
		isRefusedMix(t, mixCall{name: "SortTexts", texts: []string{s}})
		for _, m := range mixes {
			isRefusedMix(t, mixCall{name: "PutMix", m: m, s: s})
		}
		isRefusedMix(t, mixCall{name: "PutMix", m: mixWith(edgeLetters(), mostSeen, 1, 1, 0), s: s})
		isRefusedMix(t, mixCall{name: "PutMix", m: impl.Mix{Least: 1, Wait: 1, Seen: []int{tagThere(s)}}, s: s})
	}
	for _, texts := range wrongAmong("a", tooLongLetters()[:4], impl.MaxPool) {
		isRefusedMix(t, mixCall{name: "SortTexts", texts: texts})
		isRefusedMix(t, mixCall{name: "PlayMix", n: 1, wait: 1, rounds: [][]string{texts}})
		isRefusedMix(t, mixCall{name: "PlayMix", n: 12, wait: 10, rounds: [][]string{{"b"}, texts, nil}})
		isRefusedMix(t, mixCall{name: "PlayMix", n: 2, wait: 2, rounds: [][]string{edgeLetters(), nil, texts}})
	}
}

func TestMoreTextsThanAPoolHasGetTheZeroAnswer(t *testing.T) {
	r := rand.New(rand.NewSource(8881))
	for _, many := range []int{impl.MaxPool + 1, impl.MaxPool + 2, 24, 100} {
		for _, texts := range [][]string{unlikeLetters(r, many), slices.Repeat([]string{"a"}, many), make([]string, many)} {
			isRefusedMix(t, mixCall{name: "SortTexts", texts: texts})
			isRefusedMix(t, mixCall{name: "PlayMix", n: 1, wait: 1, rounds: [][]string{texts}})
			isRefusedMix(t, mixCall{name: "PlayMix", n: 12, wait: 10, rounds: [][]string{nil, {"b"}, texts}})
			isRefusedMix(t, mixCall{name: "PlayMix", n: 12, wait: 10, rounds: [][]string{texts, nil, {"b"}}})
		}
	}
	isRefusedMix(t, mixCall{name: "SortTexts", texts: make([]string, 100000)})
	isRefusedMix(t, mixCall{name: "PlayMix", n: 1, wait: 1, rounds: [][]string{make([]string, 100000)}})
}

func TestTooManyRoundsGetTheZeroAnswer(t *testing.T) {
	for _, many := range []int{mostMixRounds + 1, mostMixRounds + 2, 2 * mostMixRounds, 256, 100000} {
		for _, rounds := range [][][]string{make([][]string, many), slices.Repeat([][]string{{"a"}}, many)} {
			isRefusedMix(t, mixCall{name: "PlayMix", n: 1, wait: 1, rounds: rounds})
			isRefusedMix(t, mixCall{name: "PlayMix", n: 12, wait: 10, rounds: rounds})
			for _, k := range []int{-1, 0, 1, mostMixRounds - 1, mostMixRounds, many - 1, many} {
				isRefusedMix(t, mixCall{name: "SetSize", rounds: rounds, n: k})
			}
		}
	}
}

func TestNumbersOfNoRoundGetTheZeroAnswer(t *testing.T) {
	for many := range mostMixRounds + 1 {
		rounds := slices.Repeat([][]string{{"a", "b"}}, many)
		for _, k := range []int{math.MinInt, math.MinInt + 1, -1 << 32, -many - 1, -1, many, many + 1, 1 << 32, math.MaxInt - 1, math.MaxInt} {
			isRefusedMix(t, mixCall{name: "SetSize", rounds: rounds, n: k})
		}
	}
}

// anyMixCalls are calls of each function, good ones and others.
func anyMixCalls() []mixCall {
	r := rand.New(rand.NewSource(8882))
	var out []mixCall
	for _, m := range append(someMixes(), wrongMixes()...) {
		out = append(out, mixCall{name: "GoodMix", m: m}, mixCall{name: "TickMix", m: m})
		for _, s := range append([]string{"", "new", strings.Repeat("x", mostLetter+1)}, m.Pool[:min(len(m.Pool), 2)]...) {
			out = append(out, mixCall{name: "PutMix", m: m, s: s})
		}
	}
	for n := range 150 {
		rounds := crowdedRounds(r, n%(mostMixRounds+2))
		least, wait := n%(impl.MaxPool+2), n%(mostWait+2)
		out = append(out, mixCall{name: "PlayMix", n: least, wait: wait, rounds: rounds}, mixCall{name: "SetSize", n: n%24 - 1, rounds: rounds}, mixCall{name: "PlayMix", n: 1, wait: 1, rounds: rounds})
		for _, round := range rounds {
			out = append(out, mixCall{name: "SortTexts", texts: round})
		}
	}
	for many := range impl.MaxPool + 3 {
		texts := unlikeLetters(r, many)
		out = append(out, mixCall{name: "SortTexts", texts: texts}, mixCall{name: "PlayMix", n: 1, wait: 1, rounds: [][]string{texts, nil, texts}}, mixCall{name: "PlayMix", n: many, wait: many})
	}
	return out
}

// holding is all memory of a call's lists, behind their lengths too.
type holding struct {
	pool   []string
	seen   []int
	texts  []string
	rounds [][]string
	rows   [][]string
}

// withMuchRoom is c with other memory behind each of its lists, and all of that
// memory.
func (c mixCall) withMuchRoom() (mixCall, holding) {
	var h holding
	c.m.Pool, h.pool = withRoom(c.m.Pool, "behind")
	c.m.Seen, h.seen = withRoom(c.m.Seen, 77)
	c.texts, h.texts = withRoom(c.texts, "behind")
	c.rounds, h.rounds = withRoom(c.rounds, []string{"a round behind"})
	for i, round := range c.rounds {
		row, all := withRoom(round, "behind")
		c.rounds[i] = row
		h.rows = append(h.rows, all)
	}
	return c, h
}

func (h holding) clone() holding {
	return holding{slices.Clone(h.pool), slices.Clone(h.seen), slices.Clone(h.texts), cloneTexts(h.rounds), cloneTexts(h.rows)}
}

func (h holding) isAlike(o holding) bool {
	return slices.Equal(h.pool, o.pool) && slices.Equal(h.seen, o.seen) && slices.Equal(h.texts, o.texts) && alikeRounds(h.rounds, o.rounds) && alikeRounds(h.rows, o.rows)
}

func (x blended) clone() blended {
	x.m.Pool, x.m.Seen, x.texts, x.rounds = slices.Clone(x.m.Pool), slices.Clone(x.m.Seen), slices.Clone(x.texts), cloneTexts(x.rounds)
	return x
}

// textLists are all lists of texts in an answer.
func (x blended) textLists() [][]string {
	return append([][]string{x.m.Pool, x.texts}, x.rounds...)
}

func (x blended) handsOutBehind() bool {
	for _, l := range x.textLists() {
		for _, s := range l[len(l):cap(l)] {
			if s != "" {
				return true
			}
		}
	}
	for _, l := range x.rounds[len(x.rounds):cap(x.rounds)] {
		if l != nil {
			return true
		}
	}
	return slices.Max(append(slices.Clone(x.m.Seen[len(x.m.Seen):cap(x.m.Seen)]), 0)) != 0
}

func TestMixesNeitherWriteNorShareWithArguments(t *testing.T) {
	for _, c := range anyMixCalls() {
		if c.isLong() {
			continue
		}
		given, held := c.withMuchRoom()
		was := held.clone()
		got := given.run()
		if !held.isAlike(was) {
			t.Fatalf("%#v writes into an argument", c)
		}
		if !got.isAlike(c.run()) {
			t.Fatalf("%#v hangs on what lies behind the lists", c)
		}
		if got.handsOutBehind() {
			t.Fatalf("%#v hands out what lies behind", c)
		}
		for _, l := range got.textLists() {
			scribbleOver(l, func(s string) string { return s + "scribbled" })
		}
		scribbleOver(got.m.Seen, func(n int) int { return n + 7777 })
		scribbleOver(got.rounds, func([]string) []string { return []string{"scribbled"} })
		if !held.isAlike(was) {
			t.Fatalf("%#v shares memory with an argument", c)
		}
		if !given.run().isAlike(c.run()) {
			t.Fatalf("%#v is another one the second time", c)
		}
	}
}

func TestListsOfOneMixAnswerShareNothing(t *testing.T) {
	for _, c := range anyMixCalls() {
		if c.isLong() {
			continue
		}
		for at := range c.run().textLists() {
			got := c.run()
			want := got.clone()
			scribbleOver(got.textLists()[at], func(s string) string { return s + "scribbled" })
			lists, were := got.textLists(), want.textLists()
			lists[at], were[at] = nil, nil
			if !alikeRounds(lists, were) {
				t.Fatalf("%#v: list %d is another one's, too", c, at)
			}
		}
	}
}

// dataOf tells where the bytes of each text that has some lie.
func dataOf(l []string) []*byte {
	var out []*byte
	for _, s := range l {
		if s != "" {
			out = append(out, unsafe.StringData(s))
		}
	}
	return out
}

func TestTextsOfAMixAnswerAreNewOnes(t *testing.T) {
	for _, c := range anyMixCalls() {
		if c.isLong() {
			continue
		}
		given := map[*byte]bool{}
		for _, at := range dataOf(slices.Concat(c.m.Pool, c.texts, []string{c.s}, slices.Concat(c.rounds...))) {
			given[at] = true
		}
		for _, at := range dataOf(slices.Concat(c.run().textLists()...)) {
			if given[at] {
				t.Fatalf("%#v tells a text that is an argument's memory", c)
			}
		}
	}
}

// Rounds may be one list, and a mix's lists parts of a longer one.
func TestArgumentsThatShareMemory(t *testing.T) {
	round := []string{"b", "a", "c"}
	isPlayed(t, 1, 1, [][]string{round, round, round[:2], round[1:]}, [][]string{{"a", "b", "c"}, nil, nil, nil})
	isPlayed(t, 1, 1, [][]string{round[:1], round[:2], round}, [][]string{{"b"}, {"a"}, {"c"}})
	if !slices.Equal(round, []string{"b", "a", "c"}) {
		t.Error(round)
	}
	all := []string{"a", "c", "d"}
	tags := []int{98, 100, 101}
	m := impl.Mix{Pool: all[:2], Least: 5, Wait: 5, Seen: tags[:2]}
	isPut(t, m, "b", impl.Mix{Pool: []string{"a", "b", "c"}, Least: 5, Wait: 5, Seen: []int{98, 99, 100}}, 0)
	isPut(t, m, "d", impl.Mix{Pool: []string{"a", "c", "d"}, Least: 5, Wait: 5, Seen: []int{98, 100, 101}}, 0)
	if !slices.Equal(all, []string{"a", "c", "d"}) || !slices.Equal(tags, []int{98, 100, 101}) {
		t.Error(all, tags)
	}
}

func TestNoTextsAndNoTagsAreTheNilOnes(t *testing.T) {
	for _, c := range anyMixCalls() {
		empty := c
		if len(c.m.Pool) == 0 {
			empty.m.Pool = []string{}
		}
		if len(c.m.Seen) == 0 {
			empty.m.Seen = []int{}
		}
		if len(c.texts) == 0 {
			empty.texts = []string{}
		}
		empty.rounds = [][]string{}
		for _, round := range c.rounds {
			empty.rounds = append(empty.rounds, append([]string{}, round...))
		}
		if !empty.run().isAlike(c.run()) {
			t.Fatalf("%#v", c)
		}
	}
}
