package tests

import (
	"bytes"
	"maps"
	"math"
	"math/big"
	"math/rand"
	"slices"
	"sort"
	"strings"

	"loop.example/g00549/impl"
)

const mostLetter = 24
const mostWait = 10
const mostOld = 10
const mostSeen = 100
const mostMixRounds = 20
const tagsInAll = 4093

// keeper is a mix that keeps its texts as they came, and looks for order only
// when they go out.
type keeper struct {
	came  []string
	seen  map[int]bool
	least int
	wait  int
	age   int
}

func newKeeper(least int, wait int) *keeper {
	return &keeper{least: least, wait: wait, seen: map[int]bool{}}
}

func keeperOf(m impl.Mix) *keeper {
	k := newKeeper(m.Least, m.Wait)
	k.came, k.age = slices.Clone(m.Pool), m.Old
	for _, tag := range m.Seen {
		k.seen[tag] = true
	}
	return k
}

func (k *keeper) put(s string) int {
	tag := tagThere(s)
	if k.seen[tag] {
		return 1
	}
	if len(k.came) == impl.MaxPool || len(k.seen) == mostSeen {
		return 2
	}
	k.came = append(k.came, s)
	k.seen[tag] = true
	return 0
}

func (k *keeper) tick() []string {
	if len(k.came) == 0 {
		return nil
	}
	if k.age < mostOld {
		k.age++
	}
	if len(k.came) < k.least && k.age < k.wait {
		return nil
	}
	out := sortedThere(k.came)
	k.came, k.age = nil, 0
	return out
}

func (k *keeper) mix() impl.Mix {
	return impl.Mix{Pool: sortedThere(k.came), Least: k.least, Wait: k.wait, Old: k.age, Seen: slices.Sorted(maps.Keys(k.seen))}
}

// playThere tells what goes out, and each text's code.
func playThere(least int, wait int, rounds [][]string) ([][]string, []int) {
	k := newKeeper(least, wait)
	var all [][]string
	var codes []int
	for _, round := range rounds {
		for _, s := range round {
			codes = append(codes, k.put(s))
		}
		all = append(all, k.tick())
	}
	return all, codes
}

// tagThere makes the whole number ahead of the rest.
func tagThere(s string) int {
	sum, weight := new(big.Int), big.NewInt(1)
	for i := len(s) - 1; i >= 0; i-- {
		sum.Add(sum, new(big.Int).Mul(weight, big.NewInt(int64(s[i])+1)))
		weight.Mul(weight, big.NewInt(257))
	}
	return int(sum.Mod(sum, big.NewInt(tagsInAll)).Int64())
}

func sortedThere(l []string) []string {
	out := append([]string(nil), l...)
	sort.SliceStable(out, func(i int, j int) bool { return bytes.Compare([]byte(out[i]), []byte(out[j])) < 0 })
	return out
}

func alikeMixes(a impl.Mix, b impl.Mix) bool {
	return slices.Equal(a.Pool, b.Pool) && a.Least == b.Least && a.Wait == b.Wait && a.Old == b.Old && slices.Equal(a.Seen, b.Seen)
}

func alikeRounds(a [][]string, b [][]string) bool {
	return slices.EqualFunc(a, b, slices.Equal[[]string])
}

// edgeLetters are texts with unlike tags: the empty one, bytes 0 and 255, each
// end of the lengths, and texts that begin others.
func edgeLetters() []string {
	return []string{"", "\x00", "\xff", strings.Repeat("\x00", mostLetter), strings.Repeat("\xff", mostLetter), "a", "ab", "abc", "\x00\xff", "\xff\x00", "just twenty-four letters", "é€"}
}

// unlikeLetters are so many texts of which no two have one tag, of any bytes
// and lengths.
func unlikeLetters(r *rand.Rand, many int) []string {
	var out []string
	tags := map[int]bool{}
	for len(out) < many {
		s := randomText(r, r.Intn(mostLetter+1))
		if tag := tagThere(s); !tags[tag] {
			tags[tag] = true
			out = append(out, s)
		}
	}
	return out
}

// textsOfTag are all texts of two bytes with that tag.
func textsOfTag(tag int) []string {
	var out []string
	for n := tag; n < 257*257; n += tagsInAll {
		if upper, lower := n/257, n%257; upper > 0 && lower > 0 {
			out = append(out, string([]byte{byte(upper - 1), byte(lower - 1)}))
		}
	}
	return out
}

// twinOf is another text with the same tag.
func twinOf(s string) string {
	twins := textsOfTag(tagThere(s))
	if twins[0] != s {
		return twins[0]
	}
	return twins[1]
}

// mixWith has the pool, and its tags and as many others Seen as make so many.
func mixWith(pool []string, seen int, least int, wait int, old int) impl.Mix {
	k := newKeeper(least, wait)
	k.came, k.age = pool, old
	for _, s := range pool {
		k.seen[tagThere(s)] = true
	}
	for tag := tagsInAll - 1; len(k.seen) < seen; tag -= 37 {
		k.seen[tag] = true
	}
	return k.mix()
}

// someMixes are good: pools of each length with few, some and the most tags
// Seen, at each end of the other bounds and between.
func someMixes() []impl.Mix {
	r := rand.New(rand.NewSource(8))
	out := []impl.Mix{{Least: 1, Wait: 1}, {Least: impl.MaxPool, Wait: mostWait}, {Least: 1, Wait: 1, Seen: []int{0}}, {Least: 1, Wait: 1, Seen: []int{tagsInAll - 1}},
		mixWith([]string{""}, 1, 1, 1, 0), mixWith([]string{strings.Repeat("\xff", mostLetter)}, 1, 12, 10, 10), mixWith(edgeLetters()[:11], 0, 12, 3, 2)}
	for many := range impl.MaxPool + 1 {
		for _, seen := range []int{many, many + 1, 50, mostSeen - 1, mostSeen} {
			for _, old := range []int{0, 1, 5, mostOld} {
				if many == 0 {
					old = 0
				}
				pool := unlikeLetters(r, many)
				out = append(out, mixWith(pool, seen, 1, 1, old), mixWith(pool, seen, impl.MaxPool, mostWait, old), mixWith(pool, seen, 1+r.Intn(impl.MaxPool), 1+r.Intn(mostWait), old))
			}
		}
	}
	return out
}

// wrongMixes are not good, each by one thing alone.
func wrongMixes() []impl.Mix {
	out := []impl.Mix{{}, {Least: 1}, {Wait: 1}}
	pool := sortedThere([]string{"", "a", "ab", "b", "\x00", "\xff\xff"})
	good := mixWith(pool, 20, 3, 4, 2)
	none := mixWith(nil, 20, 3, 4, 0)
	for _, m := range []impl.Mix{good, none, {Least: 3, Wait: 4}} {
		out = slices.Concat(out, wrongBounds(m), wrongSeen(m))
	}
	return slices.Concat(out, wrongPools(good), wrongLetterPools())
}

func wrongBounds(m impl.Mix) []impl.Mix {
	var out []impl.Mix
	for _, n := range wrongLeasts() {
		wrong := m
		wrong.Least = n
		out = append(out, wrong)
	}
	for _, n := range wrongWaits() {
		wrong := m
		wrong.Wait = n
		out = append(out, wrong)
	}
	for _, n := range []int{math.MinInt, -mostOld, -2, -1, mostOld + 1, mostOld + 2, 256, 1 << 32, math.MaxInt} {
		wrong := m
		wrong.Old = n
		out = append(out, wrong)
	}
	for old := 1; old <= mostOld && len(m.Pool) == 0; old++ {
		wrong := m
		wrong.Old = old
		out = append(out, wrong)
	}
	return out
}

// wrongSeen have a number that is no tag at an end, two alike or out of order
// at each place, or more than there may be.
func wrongSeen(m impl.Mix) []impl.Mix {
	var lists [][]int
	for _, n := range []int{math.MinInt, -tagsInAll, -2, -1} {
		lists = append(lists, append([]int{n}, m.Seen...))
	}
	for _, n := range []int{tagsInAll, tagsInAll + 1, 1 << 16, 1 << 32, math.MaxInt} {
		lists = append(lists, append(slices.Clone(m.Seen), n))
	}
	for i, tag := range m.Seen {
		lists = append(lists, slices.Insert(slices.Clone(m.Seen), i, tag))
		if i > 0 {
			swapped := slices.Clone(m.Seen)
			swapped[i-1], swapped[i] = swapped[i], swapped[i-1]
			lists = append(lists, swapped)
		}
	}
	lists = append(lists, mixWith(m.Pool, mostSeen+1, 1, 1, 0).Seen, mixWith(m.Pool, 110, 1, 1, 0).Seen, risingOrder(tagsInAll), risingOrder(100000))
	var out []impl.Mix
	for _, seen := range lists {
		wrong := m
		wrong.Seen = seen
		out = append(out, wrong)
	}
	return out
}

// wrongPools are out of order, have two texts alike or of one tag, or a text
// whose tag is not Seen.
func wrongPools(m impl.Mix) []impl.Mix {
	var out []impl.Mix
	for i, s := range m.Pool {
		twice, twins, unseen := m, m, m
		twice.Pool = slices.Insert(slices.Clone(m.Pool), i, s)
		twins.Pool = sortedThere(append(slices.Clone(m.Pool), twinOf(s)))
		at := slices.Index(m.Seen, tagThere(s))
		unseen.Seen = slices.Delete(slices.Clone(m.Seen), at, at+1)
		out = append(out, twice, twins, unseen)
		for k := range i {
			swapped := m
			swapped.Pool = slices.Clone(m.Pool)
			swapped.Pool[i], swapped.Pool[k] = swapped.Pool[k], swapped.Pool[i]
			out = append(out, swapped)
		}
	}
	return out
}

// wrongLetterPools have too many texts, or a text that is too long.
func wrongLetterPools() []impl.Mix {
	r := rand.New(rand.NewSource(88))
	out := []impl.Mix{mixWith(unlikeLetters(r, impl.MaxPool+1), 0, 3, 4, 0), mixWith(unlikeLetters(r, mostSeen), 0, 12, 10, 3),
		{Pool: slices.Repeat([]string{"a"}, 100000), Least: 1, Wait: 1, Seen: []int{98}}}
	for _, s := range tooLongLetters() {
		out = append(out, mixWith([]string{s}, 0, 1, 1, 0), mixWith([]string{"", "a", s, "\xff"}, 20, 3, 4, 2))
	}
	return out
}

func wrongLeasts() []int {
	return []int{math.MinInt, math.MinInt + 1, -1 << 32, -impl.MaxPool, -2, -1, 0, impl.MaxPool + 1, impl.MaxPool + 2, 100, 256 + 1, 1 << 32, 1<<32 + 1, math.MaxInt - 1, math.MaxInt}
}

func wrongWaits() []int {
	return []int{math.MinInt, math.MinInt + 1, -1 << 32, -mostWait, -2, -1, 0, mostWait + 1, mostWait + 2, 100, 256 + 1, 1 << 32, 1<<32 + 1, math.MaxInt - 1, math.MaxInt}
}

func tooLongLetters() []string {
	out := []string{strings.Repeat("\x00", mostLetter+1), strings.Repeat("\xff", mostLetter+1), strings.Repeat("é", mostLetter/2) + "e", strings.Repeat("é", mostLetter), strings.Repeat("x", 10000)}
	for long := mostLetter + 1; long < 60; long++ {
		out = append(out, strings.Repeat("m", long))
	}
	return out
}

// roomyRounds have room for all at this least and wait: so many rounds, of
// texts with unlike tags, now and then as many as there is room for.
func roomyRounds(r *rand.Rand, many int, least int, wait int) [][]string {
	left := unlikeLetters(r, mostSeen)
	k := newKeeper(least, wait)
	var rounds [][]string
	for range many {
		size := min(impl.MaxPool-len(k.came), len(left))
		if r.Intn(4) > 0 {
			size = r.Intn(min(size, 5) + 1)
		}
		rounds = append(rounds, left[:size:size])
		for _, s := range left[:size] {
			k.put(s)
		}
		k.tick()
		left = left[size:]
	}
	return rounds
}

// crowdedRounds have no room for all, texts that come again, and twins.
func crowdedRounds(r *rand.Rand, many int) [][]string {
	from := append(unlikeLetters(r, 5+r.Intn(mostSeen+20)), edgeLetters()[:8]...)
	for range 5 {
		from = append(from, twinOf(from[r.Intn(len(from))]))
	}
	var rounds [][]string
	for range many {
		var round []string
		for range r.Intn(impl.MaxPool + 1) {
			round = append(round, from[r.Intn(len(from))])
		}
		rounds = append(rounds, round)
	}
	return rounds
}

func shuffledRounds(r *rand.Rand, rounds [][]string) [][]string {
	out := cloneTexts(rounds)
	for _, round := range out {
		r.Shuffle(len(round), func(i int, j int) { round[i], round[j] = round[j], round[i] })
	}
	return out
}

func cloneTexts(rounds [][]string) [][]string {
	var out [][]string
	for _, round := range rounds {
		out = append(out, slices.Clone(round))
	}
	return out
}
