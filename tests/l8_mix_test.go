package tests

import (
	"math/rand"
	"slices"
	"strconv"
	"strings"
	"testing"

	"loop.example/g00549/impl"
)

func isTagged(t *testing.T, s string, want int) {
	t.Helper()
	if got, ok := impl.TagOf(s); got != want || !ok {
		t.Fatalf("TagOf(%q): %d, %v, not %d", s, got, ok, want)
	}
}

func isSorted(t *testing.T, l []string, want ...string) {
	t.Helper()
	if got, ok := impl.SortTexts(l); !slices.Equal(got, want) || !ok {
		t.Fatalf("SortTexts(%q): %q, %v, not %q", l, got, ok, want)
	}
}

func isPut(t *testing.T, m impl.Mix, s string, want impl.Mix, code int) {
	t.Helper()
	if got, n, ok := impl.PutMix(m, s); !alikeMixes(got, want) || n != code || !ok {
		t.Fatalf("PutMix(%#v, %q): %#v, %d, %v, not %#v, %d", m, s, got, n, ok, want, code)
	}
}

func isTicked(t *testing.T, m impl.Mix, want impl.Mix, out ...string) {
	t.Helper()
	if got, l, ok := impl.TickMix(m); !alikeMixes(got, want) || !slices.Equal(l, out) || !ok {
		t.Fatalf("TickMix(%#v): %#v, %q, %v, not %#v, %q", m, got, l, ok, want, out)
	}
}

func isPlayed(t *testing.T, least int, wait int, rounds [][]string, want [][]string) {
	t.Helper()
	if got, ok := impl.PlayMix(least, wait, rounds); !alikeRounds(got, want) || !ok {
		t.Fatalf("PlayMix(%d, %d, %q): %q, %v, not %q", least, wait, rounds, got, ok, want)
	}
}

func isGoodMix(t *testing.T, m impl.Mix) {
	t.Helper()
	if !impl.GoodMix(m) {
		t.Fatalf("%#v is not good", m)
	}
}

func TestMixLimits(t *testing.T) {
	if impl.MaxPool != 12 {
		t.Error(impl.MaxPool)
	}
}

func TestTagsByHand(t *testing.T) {
	isTagged(t, "", 0)
	isTagged(t, "\x00", 1)
	isTagged(t, "\x01", 2)
	isTagged(t, "a", 98)
	isTagged(t, "\xff", 256)
	isTagged(t, "\x00\x00", 258)
	isTagged(t, "\x00\x01", 259)
	isTagged(t, "\x01\x00", 515)
	isTagged(t, "ab", 727) // 25285
	isTagged(t, "ba", 983) // 25541
	isTagged(t, "\x0e\xec", 4092)
	isTagged(t, "\x0e\xed", 0) // 4093
	isTagged(t, "\x0e\xee", 1)
	isTagged(t, strings.Repeat("\x00", mostLetter), 995)
	isTagged(t, strings.Repeat("\xff", mostLetter), 954) // 257 to the 24, less 1
}

func TestTagsOfEachLength(t *testing.T) {
	r := rand.New(rand.NewSource(881))
	for long := range mostLetter + 1 {
		for range 50 {
			s := randomText(r, long)
			isTagged(t, s, tagThere(s))
		}
		for _, b := range []string{"\x00", "a", "\x80", "\xff"} {
			isTagged(t, strings.Repeat(b, long), tagThere(strings.Repeat(b, long)))
		}
		for at := range long {
			s := strings.Repeat("\x00", at) + "\xff" + strings.Repeat("\x00", long-at-1)
			isTagged(t, s, tagThere(s))
		}
	}
}

func TestEachTagIsSomeTexts(t *testing.T) {
	seen := map[int]bool{}
	for a := range 256 {
		for b := range 256 {
			s := string([]byte{byte(a), byte(b)})
			isTagged(t, s, (257*(a+1)+b+1)%tagsInAll)
			tag, _ := impl.TagOf(s)
			seen[tag] = true
		}
	}
	if len(seen) != tagsInAll {
		t.Error(len(seen))
	}
}

func TestSortTextsByHand(t *testing.T) {
	isSorted(t, nil)
	isSorted(t, []string{""}, "")
	isSorted(t, []string{"b", "a"}, "a", "b")
	isSorted(t, []string{"ab", "b", "a", "", "abc"}, "", "a", "ab", "abc", "b")
	isSorted(t, []string{"b", "a", "b", "a", "b"}, "a", "a", "b", "b", "b")
	isSorted(t, []string{"", "", ""}, "", "", "")
	isSorted(t, []string{"\xff", "\x80", "\x7f", "\x00"}, "\x00", "\x7f", "\x80", "\xff")
	isSorted(t, []string{"a\x00\x00", "a\x00", "a"}, "a", "a\x00", "a\x00\x00")
	isSorted(t, []string{"é", "z", "Z", "ab", "a\xff"}, "Z", "ab", "a\xff", "z", "é")
	isSorted(t, []string{"10", "9", "2"}, "10", "2", "9")
	long := strings.Repeat("x", mostLetter-1)
	isSorted(t, []string{long + "b", long + "a", long}, long, long+"a", long+"b")
	isSorted(t, []string{"l", "k", "j", "i", "h", "g", "f", "e", "d", "c", "b", "a"}, "a", "b", "c", "d", "e", "f", "g", "h", "i", "j", "k", "l")
	isSorted(t, slices.Repeat([]string{"same"}, impl.MaxPool), slices.Repeat([]string{"same"}, impl.MaxPool)...)
}

func TestEachOrderSortsTheSame(t *testing.T) {
	want := []string{"", "\x00", "a", "ab", "ab", "\xff"}
	order := risingOrder(len(want))
	for more := true; more; more = nextOrder(order) {
		var l []string
		for _, at := range order {
			l = append(l, want[at])
		}
		isSorted(t, l, want...)
	}
}

func TestSortTextsOfEachNumber(t *testing.T) {
	r := rand.New(rand.NewSource(882))
	for many := range impl.MaxPool + 1 {
		for range 100 {
			var l []string
			for range many {
				// few bytes, so that many begin alike
				l = append(l, strings.Repeat(string([]byte{byte(r.Intn(3)) * 127}), r.Intn(5))+randomText(r, r.Intn(3)))
			}
			isSorted(t, l, sortedThere(l)...)
		}
	}
}

func TestSetSizeOfEachRound(t *testing.T) {
	for many := range mostMixRounds + 1 {
		var rounds [][]string
		for i := range many {
			rounds = append(rounds, slices.Repeat([]string{"x"}, (i*5+many)%(impl.MaxPool+1)))
		}
		for k, round := range rounds {
			if n, ok := impl.SetSize(rounds, k); n != len(round) || !ok {
				t.Fatalf("SetSize(%q, %d): %d, %v", rounds, k, n, ok)
			}
		}
		for _, k := range []int{-1, many, many + 1} {
			if n, ok := impl.SetSize(rounds, k); n != 0 || ok {
				t.Fatalf("SetSize(%q, %d): %d, %v", rounds, k, n, ok)
			}
		}
	}
}

// Each text that goes out is among as many as its round tells.
func TestSetSizeOfWhatGoesOut(t *testing.T) {
	out, _ := impl.PlayMix(3, 2, [][]string{{"a"}, nil, {"b", "c", "d", "e"}, {"f", "g"}})
	for k, want := range []int{0, 1, 4, 0} {
		if n, ok := impl.SetSize(out, k); n != want || !ok {
			t.Errorf("round %d of %q: %d, %v", k, out, n, ok)
		}
	}
}

func TestNewMixes(t *testing.T) {
	for least := 1; least <= impl.MaxPool; least++ {
		for wait := 1; wait <= mostWait; wait++ {
			m, ok := impl.NewMix(least, wait)
			if !ok || !alikeMixes(m, impl.Mix{Least: least, Wait: wait}) {
				t.Fatalf("NewMix(%d, %d): %#v, %v", least, wait, m, ok)
			}
			isGoodMix(t, m)
		}
	}
}

func TestEdgeLettersHaveUnlikeTagsAndTwins(t *testing.T) {
	tags := map[int]bool{}
	for _, s := range edgeLetters() {
		tags[tagThere(s)] = true
		if twin := twinOf(s); twin == s || tagThere(twin) != tagThere(s) {
			t.Errorf("%q, %q", s, twin)
		}
	}
	if len(tags) != impl.MaxPool || len(edgeLetters()) != impl.MaxPool {
		t.Error(tags)
	}
}

func TestGoodMixesAtEachLimit(t *testing.T) {
	for _, m := range someMixes() {
		isGoodMix(t, m)
	}
	for many := 1; many <= impl.MaxPool; many++ {
		for old := range mostOld + 1 {
			isGoodMix(t, mixWith(edgeLetters()[:many], many, impl.MaxPool, mostWait, old))
			isGoodMix(t, mixWith(edgeLetters()[:many], mostSeen, 1, 1, old))
		}
	}
	isGoodMix(t, impl.Mix{Least: 1, Wait: 1, Seen: risingOrder(mostSeen)})
	isGoodMix(t, impl.Mix{Least: 1, Wait: 1, Seen: []int{0, tagsInAll - 1}})
	isGoodMix(t, impl.Mix{Pool: []string{}, Least: 1, Wait: 1, Seen: []int{}})
}

func TestWhatIsNoGoodMix(t *testing.T) {
	for _, m := range wrongMixes() {
		if impl.GoodMix(m) {
			t.Fatalf("%#v is good", m)
		}
	}
}

// Of a good mix each list that is out of order is no good one.
func TestAPoolIsInOneOrderAlone(t *testing.T) {
	m := mixWith([]string{"", "a", "ab", "b", "\xff"}, 0, 5, 5, 1)
	pool := slices.Clone(m.Pool)
	order := risingOrder(len(pool))
	isGoodMix(t, m)
	for nextOrder(order) {
		for i, at := range order {
			m.Pool[i] = pool[at]
		}
		if impl.GoodMix(m) {
			t.Errorf("%q is good", m.Pool)
		}
	}
}

func TestPutsByHand(t *testing.T) {
	m := impl.Mix{Least: 3, Wait: 4}
	one := impl.Mix{Pool: []string{"b"}, Least: 3, Wait: 4, Seen: []int{99}}
	two := impl.Mix{Pool: []string{"a", "b"}, Least: 3, Wait: 4, Seen: []int{98, 99}}
	isPut(t, m, "b", one, 0)
	isPut(t, one, "a", two, 0)
	isPut(t, two, "a", two, 1)
	isPut(t, two, "\x0fN", two, 1) // has the tag of a
	isPut(t, two, "", impl.Mix{Pool: []string{"", "a", "b"}, Least: 3, Wait: 4, Seen: []int{0, 98, 99}}, 0)
	isPut(t, two, "aa", impl.Mix{Pool: []string{"a", "aa", "b"}, Least: 3, Wait: 4, Seen: []int{98, 99, 726}}, 0)
	// its place in the Pool is another one than that of its tag in Seen
	isPut(t, two, "\xff", impl.Mix{Pool: []string{"a", "b", "\xff"}, Least: 3, Wait: 4, Seen: []int{98, 99, 256}}, 0)
	isPut(t, two, "a\x00\x00", impl.Mix{Pool: []string{"a", "a\x00\x00", "b"}, Least: 3, Wait: 4, Seen: []int{98, 99, tagThere("a\x00\x00")}}, 0)
	isPut(t, two, strings.Repeat("\x00", mostLetter), impl.Mix{Pool: []string{strings.Repeat("\x00", mostLetter), "a", "b"}, Least: 3, Wait: 4, Seen: []int{98, 99, 995}}, 0)
	old := two
	old.Old = 3
	isPut(t, old, "c", impl.Mix{Pool: []string{"a", "b", "c"}, Least: 3, Wait: 4, Old: 3, Seen: []int{98, 99, 100}}, 0)
	isPut(t, old, "b", old, 1)
}

func TestPutsAreAsSaid(t *testing.T) {
	r := rand.New(rand.NewSource(883))
	codes := [3]int{}
	for _, m := range someMixes() {
		texts := slices.Concat(edgeLetters(), unlikeLetters(r, 10), m.Pool)
		for _, s := range m.Pool {
			texts = append(texts, twinOf(s))
		}
		for _, s := range texts {
			k := keeperOf(m)
			code := k.put(s)
			codes[code]++
			want := k.mix()
			if code == 2 {
				want = impl.Mix{}
			} else {
				isGoodMix(t, want)
			}
			isPut(t, m, s, want, code)
		}
	}
	if codes[0] < 100 || codes[1] < 100 || codes[2] < 100 {
		t.Error(codes)
	}
}

func TestATextComesOnceAtMost(t *testing.T) {
	for _, s := range edgeLetters() {
		m, _ := impl.NewMix(1, 1)
		m, code, ok := impl.PutMix(m, s)
		if code != 0 || !ok || !slices.Equal(m.Pool, []string{s}) {
			t.Fatalf("%q: %#v, %d, %v", s, m, code, ok)
		}
		isPut(t, m, s, m, 1)
		isPut(t, m, twinOf(s), m, 1)
		gone, out, _ := impl.TickMix(m)
		if !slices.Equal(out, []string{s}) {
			t.Fatalf("%q: %q", s, out)
		}
		isPut(t, gone, s, gone, 1)
		isPut(t, gone, twinOf(s), gone, 1)
	}
}

func TestAFullPoolHasNoRoom(t *testing.T) {
	for _, seen := range []int{impl.MaxPool, 50, mostSeen} {
		full := mixWith(edgeLetters(), seen, impl.MaxPool, mostWait, 3)
		isPut(t, full, "other", impl.Mix{}, 2)
		for _, s := range full.Pool {
			isPut(t, full, s, full, 1)
			isPut(t, full, twinOf(s), full, 1)
		}
	}
	last := mixWith(edgeLetters()[:impl.MaxPool-1], 0, impl.MaxPool, mostWait, 3)
	if m, code, ok := impl.PutMix(last, "other"); len(m.Pool) != impl.MaxPool || code != 0 || !ok {
		t.Errorf("%#v, %d, %v", m, code, ok)
	}
}

func TestNoMoreTagsThanRoomForThem(t *testing.T) {
	for many := range impl.MaxPool {
		full := mixWith(edgeLetters()[:many], mostSeen, impl.MaxPool, mostWait, 0)
		isPut(t, full, "other", impl.Mix{}, 2)
		for _, tag := range full.Seen {
			isPut(t, full, textsOfTag(tag)[0], full, 1)
		}
		last := mixWith(edgeLetters()[:many], mostSeen-1, impl.MaxPool, mostWait, 0)
		if m, code, ok := impl.PutMix(last, "other"); len(m.Seen) != mostSeen || len(m.Pool) != many+1 || code != 0 || !ok {
			t.Errorf("%#v, %d, %v", m, code, ok)
		}
	}
}

func TestTicksByHand(t *testing.T) {
	m := impl.Mix{Pool: []string{"a", "b"}, Least: 3, Wait: 3, Seen: []int{98, 99, 100}}
	older := func(m impl.Mix, old int) impl.Mix {
		m.Old = old
		return m
	}
	gone := impl.Mix{Least: 3, Wait: 3, Seen: []int{98, 99, 100}}
	isTicked(t, m, older(m, 1))
	isTicked(t, older(m, 1), older(m, 2))
	isTicked(t, older(m, 2), gone, "a", "b")
	isTicked(t, older(m, 10), gone, "a", "b")
	isTicked(t, gone, gone)
	enough := impl.Mix{Pool: []string{"a", "b", "c"}, Least: 3, Wait: 3, Seen: []int{98, 99, 100}}
	isTicked(t, enough, gone, "a", "b", "c")
	enough.Wait, gone.Wait = mostWait, mostWait
	isTicked(t, enough, gone, "a", "b", "c")
}

// Each Least and Wait, each age, each number in the Pool.
func TestEachTick(t *testing.T) {
	for least := 1; least <= impl.MaxPool; least++ {
		for wait := 1; wait <= mostWait; wait++ {
			isTicked(t, mixWith(nil, 30, least, wait, 0), mixWith(nil, 30, least, wait, 0))
			for many := 1; many <= impl.MaxPool; many++ {
				for old := range mostOld + 1 {
					m := mixWith(edgeLetters()[:many], 30, least, wait, old)
					if many >= least || old+1 >= wait {
						isTicked(t, m, impl.Mix{Least: least, Wait: wait, Seen: m.Seen}, m.Pool...)
					} else {
						isTicked(t, m, impl.Mix{Pool: m.Pool, Least: least, Wait: wait, Old: old + 1, Seen: m.Seen})
					}
				}
			}
		}
	}
}

func TestAllGoOutInOrderOrNone(t *testing.T) {
	for _, m := range someMixes() {
		got, out, ok := impl.TickMix(m)
		if !ok || !slices.Equal(got.Seen, m.Seen) {
			t.Fatalf("%#v: %#v, %v", m, got, ok)
		}
		isGoodMix(t, got)
		isSorted(t, out, out...)
		stays := len(out) == 0 && slices.Equal(got.Pool, m.Pool)
		goes := len(got.Pool) == 0 && got.Old == 0 && slices.Equal(out, m.Pool)
		if !stays && !goes {
			t.Fatalf("%#v: %#v, %q", m, got, out)
		}
		k := keeperOf(m)
		want := k.tick()
		isTicked(t, m, k.mix(), want...)
	}
}

func TestPlaysByHand(t *testing.T) {
	isPlayed(t, 2, 3, [][]string{{"b"}, {"a"}, {"b", "c"}, nil, nil}, [][]string{nil, {"a", "b"}, nil, nil, {"c"}})
	isPlayed(t, 1, 1, [][]string{{"c", "a", "b"}}, [][]string{{"a", "b", "c"}})
	isPlayed(t, 12, 1, [][]string{{"c", "a", "b"}, {"c"}, {"d"}}, [][]string{{"a", "b", "c"}, nil, {"d"}})
	isPlayed(t, 12, 2, [][]string{{"c", "a"}, {"b"}, {"d"}, nil}, [][]string{nil, {"a", "b", "c"}, nil, {"d"}})
	// the one that came first counts for how old the Pool is
	isPlayed(t, 12, 3, [][]string{nil, {"b"}, nil, {"a"}, {"c"}}, [][]string{nil, nil, nil, {"a", "b"}, nil})
	isPlayed(t, 3, 10, [][]string{{"a", "a", "b", "b"}, {"a"}, {"c"}}, [][]string{nil, nil, {"a", "b", "c"}})
	// of two texts with one tag the first one counts
	isPlayed(t, 1, 1, [][]string{{"a", "\x0fN"}, {"\x0fN"}}, [][]string{{"a"}, nil})
	isPlayed(t, 1, 1, [][]string{{"\x0fN", "a"}, {"a"}}, [][]string{{"\x0fN"}, nil})
	isPlayed(t, 1, 1, [][]string{{"", "\x00", "\xff"}, {""}}, [][]string{{"", "\x00", "\xff"}, nil})
}

func TestPlaysOfNoRounds(t *testing.T) {
	for least := 1; least <= impl.MaxPool; least++ {
		for wait := 1; wait <= mostWait; wait++ {
			isPlayed(t, least, wait, nil, nil)
			isPlayed(t, least, wait, [][]string{}, nil)
			isPlayed(t, least, wait, [][]string{{}}, [][]string{nil})
			isPlayed(t, least, wait, make([][]string, mostMixRounds), make([][]string, mostMixRounds))
		}
	}
}

// A full Pool goes out at the next tick, so it has no room till then alone.
func TestPlaysWithoutRoom(t *testing.T) {
	all := edgeLetters()
	isPlayed(t, 12, 10, [][]string{all, {"m"}}, [][]string{sortedThere(all), nil})
	eleven := all[:11]
	isPlayed(t, 12, 2, [][]string{eleven, {"m", "n"}, {"n"}, nil}, [][]string{nil, sortedThere(append(slices.Clone(eleven), "m")), nil, {"n"}})
	isPlayed(t, 12, 2, [][]string{eleven, {"n", "m"}, {"n"}, nil}, [][]string{nil, sortedThere(append(slices.Clone(eleven), "n")), nil, nil})
}

func TestPlaysOfMoreTagsThanRoom(t *testing.T) {
	r := rand.New(rand.NewSource(884))
	texts := unlikeLetters(r, mostMixRounds*impl.MaxPool)
	var rounds, want [][]string
	for i := range mostMixRounds {
		round := texts[i*impl.MaxPool : (i+1)*impl.MaxPool]
		rounds = append(rounds, round)
		want = append(want, sortedThere(round[:max(0, min(impl.MaxPool, mostSeen-i*impl.MaxPool))]))
	}
	isPlayed(t, 1, 1, rounds, want)
	isPlayed(t, impl.MaxPool, 1, rounds, want)
}

func TestPlaysAreAsSaid(t *testing.T) {
	r := rand.New(rand.NewSource(885))
	codes := [3]int{}
	for least := 1; least <= impl.MaxPool; least++ {
		for wait := 1; wait <= mostWait; wait++ {
			for many := range mostMixRounds + 1 {
				rounds := crowdedRounds(r, many)
				want, told := playThere(least, wait, rounds)
				isPlayed(t, least, wait, rounds, want)
				for _, code := range told {
					codes[code]++
				}
			}
		}
	}
	if codes[0] < 1000 || codes[1] < 1000 || codes[2] < 1000 {
		t.Error(codes)
	}
}

func TestAPlayStepByStep(t *testing.T) {
	r := rand.New(rand.NewSource(886))
	for range 200 {
		least, wait := 1+r.Intn(impl.MaxPool), 1+r.Intn(mostWait)
		rounds := crowdedRounds(r, mostMixRounds)
		m, _ := impl.NewMix(least, wait)
		var all [][]string
		for _, round := range rounds {
			for _, s := range round {
				put, code, ok := impl.PutMix(m, s)
				if !ok {
					t.Fatalf("PutMix(%#v, %q) is refused", m, s)
				}
				if code == 0 {
					isGoodMix(t, put)
					m = put
				}
			}
			next, out, ok := impl.TickMix(m)
			if !ok {
				t.Fatalf("TickMix(%#v) is refused", m)
			}
			isGoodMix(t, next)
			m, all = next, append(all, out)
		}
		isPlayed(t, least, wait, rounds, all)
	}
}

func TestWhatGoesOutDoesNotTellInWhatOrderItCame(t *testing.T) {
	r := rand.New(rand.NewSource(887))
	outs := 0
	for least := 1; least <= impl.MaxPool; least++ {
		for wait := 1; wait <= mostWait; wait++ {
			for _, many := range []int{1, 2, 3, 7, mostMixRounds} {
				rounds := roomyRounds(r, many, least, wait)
				want, codes := playThere(least, wait, rounds)
				if slices.Contains(codes, 2) || slices.Contains(codes, 1) {
					t.Fatalf("no room at %d, %d for %q", least, wait, rounds)
				}
				isPlayed(t, least, wait, rounds, want)
				for range 4 {
					isPlayed(t, least, wait, shuffledRounds(r, rounds), want)
				}
				backwards := cloneTexts(rounds)
				for _, round := range backwards {
					slices.Reverse(round)
				}
				isPlayed(t, least, wait, backwards, want)
				outs += len(slices.Concat(want...))
			}
		}
	}
	if outs < 1000 {
		t.Error(outs)
	}
}

func TestEachOrderOfFewTextsTellsTheSame(t *testing.T) {
	texts := []string{"", "a", "ab", "\x00", "\xff"}
	for least := 1; least <= impl.MaxPool; least++ {
		for wait := 1; wait <= mostWait; wait++ {
			want, _ := playThere(least, wait, [][]string{texts[:4], texts[4:], nil})
			order := risingOrder(4)
			for more := true; more; more = nextOrder(order) {
				var round []string
				for _, at := range order {
					round = append(round, texts[at])
				}
				isPlayed(t, least, wait, [][]string{round, texts[4:], nil}, want)
			}
		}
	}
}

// A text that comes again, in whatever round, changes nothing either.
func TestTextsThatComeAgainTellTheSame(t *testing.T) {
	r := rand.New(rand.NewSource(888))
	for least := 1; least <= impl.MaxPool; least++ {
		for wait := 1; wait <= mostWait; wait++ {
			rounds := roomyRounds(r, 10, least, wait)
			want, _ := playThere(least, wait, rounds)
			again := cloneTexts(rounds)
			for i := range again {
				came := slices.Concat(rounds[:i+1]...)
				for len(came) > 0 && len(again[i]) < impl.MaxPool && r.Intn(5) > 0 {
					again[i] = append(again[i], came[r.Intn(len(came))])
				}
			}
			isPlayed(t, least, wait, again, want)
			isPlayed(t, least, wait, shuffledRounds(r, again), want)
		}
	}
}

// Whatever comes, no text goes out twice.
func TestATextGoesOutOnceAtMost(t *testing.T) {
	r := rand.New(rand.NewSource(889))
	for n := range 300 {
		rounds := crowdedRounds(r, mostMixRounds)
		out, ok := impl.PlayMix(1+n%impl.MaxPool, 1+n%mostWait, rounds)
		tags := map[int]string{}
		for _, s := range slices.Concat(out...) {
			if other, is := tags[tagThere(s)]; is || !ok {
				t.Fatal(strconv.Quote(s), strconv.Quote(other), ok)
			}
			tags[tagThere(s)] = s
		}
		if len(tags) == 0 {
			t.Errorf("nothing goes out of %q", rounds)
		}
	}
}
