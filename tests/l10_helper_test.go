package tests

import (
	"iter"
	"math"
	"math/rand"
	"slices"
	"strconv"
	"strings"

	"loop.example/g00549/impl"
)

const mostSaid = 15
const mostTick = 1000
const mostWays = 4
const alwaysLong = 24

// plainTick is the one step that lets something out.
var plainTick = impl.CoverStep{Kind: impl.CvTick}

func saying(s string) impl.CoverStep {
	return impl.CoverStep{Kind: impl.CvSay, Text: s}
}

// teller is a client that keeps all that was ever said, and counts how much of
// it has left.
type teller struct {
	said []string
	left int
	tick int
	ways int
}

func tellerOf(c impl.Client) *teller {
	return &teller{said: slices.Clone(c.Queue), tick: c.Tick, ways: c.Ways}
}

func (k *teller) client() impl.Client {
	return impl.Client{Queue: slices.Clone(k.said[k.left:]), Tick: k.tick, Ways: k.ways}
}

func (k *teller) step(s impl.CoverStep) (impl.Emit, string, bool) {
	if s.Kind == impl.CvSay && len(s.Text) <= mostSaid && len(k.said) < k.left+impl.MaxQueue {
		k.said = append(k.said, s.Text)
		return impl.Emit{}, "", true
	}
	if s.Kind != impl.CvTick || s.Text != "" || k.tick == mostTick {
		return impl.Emit{}, "", false
	}
	emit := impl.Emit{Tick: k.tick, Way: wayThere(k.tick, k.ways), Long: alwaysLong}
	k.tick++
	if k.left == len(k.said) {
		return emit, "", true
	}
	k.left++
	return emit, k.said[k.left-1], true
}

// wayThere goes from way to way in turn, tick by tick.
func wayThere(tick int, ways int) int {
	way := 0
	for range tick {
		way++
		if way == ways {
			way = 0
		}
	}
	return way
}

func traceThere(ways int, ticks int) []impl.Emit {
	var out []impl.Emit
	for tick := range ticks {
		out = append(out, impl.Emit{Tick: tick, Way: wayThere(tick, ways), Long: alwaysLong})
	}
	return out
}

func coverThere(ways int, l []impl.CoverStep) ([]impl.Emit, []string, []bool) {
	k := &teller{ways: ways}
	var emits []impl.Emit
	var texts []string
	var did []bool
	for _, s := range l {
		emit, text, done := k.step(s)
		did = append(did, done)
		if done && s.Kind == impl.CvTick {
			emits, texts = append(emits, emit), append(texts, text)
		}
	}
	return emits, texts, did
}

func ticksIn(l []impl.CoverStep) int {
	many := 0
	for _, s := range l {
		if s == plainTick {
			many++
		}
	}
	return many
}

func alikeClients(a impl.Client, b impl.Client) bool {
	return slices.Equal(a.Queue, b.Queue) && a.Tick == b.Tick && a.Ways == b.Ways
}

// someSayings have each length that can be said, and any bytes.
func someSayings() []string {
	r := rand.New(rand.NewSource(10))
	out := []string{"", "hi", "\x00", "\xff", "just 15 letters", "é€"}
	for long := 1; long <= mostSaid; long++ {
		out = append(out, strings.Repeat("\x00", long), strings.Repeat("z", long), randomText(r, long))
	}
	return out
}

func tooLongSayings() []string {
	out := []string{strings.Repeat("\x00", mostSaid+1), strings.Repeat("\xff", mostSaid+1), strings.Repeat("é", 8), strings.Repeat("x", 1000)}
	for long := mostSaid + 1; long < 50; long++ {
		out = append(out, strings.Repeat("m", long))
	}
	return out
}

// noKinds are numbers of no kind of step, the ends among them, and those that
// look like a kind in fewer bits.
func noKinds() []int {
	return []int{math.MinInt, math.MinInt + 1, math.MinInt + 2, -1 << 32, -257, -3, -2, -1, 0, 3, 4, 5, 10, 255, 256, 256 + impl.CvSay, 256 + impl.CvTick, 1<<16 + impl.CvTick, 1 << 32, 1<<32 + impl.CvSay, 1<<32 + impl.CvTick, math.MaxInt - 1, math.MaxInt}
}

// neverDone are steps that no client does.
func neverDone() []impl.CoverStep {
	var out []impl.CoverStep
	for _, kind := range noKinds() {
		out = append(out, impl.CoverStep{Kind: kind}, impl.CoverStep{Kind: kind, Text: "hi"})
	}
	for _, s := range tooLongSayings() {
		out = append(out, saying(s), impl.CoverStep{Kind: impl.CvTick, Text: s}, impl.CoverStep{Text: s})
	}
	for _, s := range someSayings()[1:] {
		out = append(out, impl.CoverStep{Kind: impl.CvTick, Text: s})
	}
	return out
}

// someSteps are some of each sort, those that no client does too.
func someSteps() []impl.CoverStep {
	out := []impl.CoverStep{plainTick}
	for _, s := range someSayings() {
		out = append(out, saying(s))
	}
	return append(out, neverDone()...)
}

// drawnSteps are so many, of which so many are ticks, at drawn places; the
// others say something, now and then something that can't be said, or are no
// steps.
func drawnSteps(r *rand.Rand, many int, ticks int) []impl.CoverStep {
	var out []impl.CoverStep
	sayings, others := someSayings(), neverDone()
	for range many - ticks {
		if r.Intn(4) == 0 {
			out = append(out, others[r.Intn(len(others))])
		} else {
			out = append(out, saying(sayings[r.Intn(len(sayings))]))
		}
	}
	for range ticks {
		out = append(out, plainTick)
	}
	r.Shuffle(len(out), func(i int, j int) { out[i], out[j] = out[j], out[i] })
	return out
}

// eachListOf are all lists of so many of these, each a new one.
func eachListOf[E any](from []E, many int) iter.Seq[[]E] {
	return func(yield func([]E) bool) {
		all := 1
		for range many {
			all *= len(from)
		}
		for n := range all {
			var l []E
			for rest := n; len(l) < many; rest /= len(from) {
				l = append(l, from[rest%len(from)])
			}
			if !yield(l) {
				return
			}
		}
	}
}

// someQueues have each length: unlike texts, alike ones, empty ones, the
// longest ones, any ones.
func someQueues() [][]string {
	r := rand.New(rand.NewSource(100))
	var out [][]string
	for many := range impl.MaxQueue + 1 {
		var unlike, anyOnes []string
		for i := range many {
			unlike = append(unlike, "said "+strconv.Itoa(i))
			anyOnes = append(anyOnes, randomText(r, r.Intn(mostSaid+1)))
		}
		out = append(out, unlike, anyOnes, slices.Repeat([]string{"same"}, many), make([]string, many), slices.Repeat([]string{strings.Repeat("\xff", mostSaid)}, many))
	}
	return append(out, []string{"", "a", "", "a", "b"}, []string{"b", "b", "a"})
}

func someClients() []impl.Client {
	var out []impl.Client
	for _, queue := range someQueues() {
		for _, tick := range []int{0, 1, 2, 3, 4, 5, 500, mostTick - 2, mostTick - 1, mostTick} {
			for ways := 1; ways <= mostWays; ways++ {
				out = append(out, impl.Client{Queue: queue, Tick: tick, Ways: ways})
			}
		}
	}
	return out
}

func wrongWays() []int {
	return []int{math.MinInt, math.MinInt + 1, -1 << 32, -mostWays, -2, -1, 0, mostWays + 1, mostWays + 2, 100, 256 + 1, 1 << 32, 1<<32 + 1, math.MaxInt - 1, math.MaxInt}
}

func wrongTicks() []int {
	return []int{math.MinInt, math.MinInt + 1, -1 << 32, -mostTick, -2, -1, mostTick + 1, mostTick + 2, 1 << 16, 1 << 32, 1<<32 + 1, math.MaxInt - 1, math.MaxInt}
}

// wrongQueues are too long, or have a text that is too long, at each place.
func wrongQueues() [][]string {
	out := [][]string{{"a", "b", "c", "d", "e", "f"}, make([]string, impl.MaxQueue+1), make([]string, 2*impl.MaxQueue), make([]string, 256), slices.Repeat([]string{"a"}, 100000)}
	return append(out, wrongAmong("a", tooLongSayings()[:6], impl.MaxQueue)...)
}

// wrongClients are not good, each by one thing alone, and the zero one.
func wrongClients() []impl.Client {
	out := []impl.Client{{}}
	for _, queue := range [][]string{nil, {"a"}, {"a", "b", "c", "d", "e"}} {
		for _, tick := range wrongTicks() {
			out = append(out, impl.Client{Queue: queue, Tick: tick, Ways: 1}, impl.Client{Queue: queue, Tick: tick, Ways: mostWays})
		}
		for _, ways := range wrongWays() {
			out = append(out, impl.Client{Queue: queue, Ways: ways}, impl.Client{Queue: queue, Tick: 7, Ways: ways}, impl.Client{Queue: queue, Tick: mostTick, Ways: ways})
		}
	}
	for _, queue := range wrongQueues() {
		out = append(out, impl.Client{Queue: queue, Ways: 1}, impl.Client{Queue: queue, Tick: 7, Ways: mostWays})
	}
	return out
}

// wrongManyTicks are numbers of ticks that TraceOf does not take.
func wrongManyTicks() []int {
	return []int{math.MinInt, math.MinInt + 1, -1 << 32, -impl.MaxCoverSteps, -2, -1, impl.MaxCoverSteps + 1, impl.MaxCoverSteps + 2, mostTick, 1 << 32, 1<<32 + 1, math.MaxInt - 1, math.MaxInt}
}

// tooManySteps are lists of more than may be, of ticks, of sayings, of none.
func tooManySteps() [][]impl.CoverStep {
	var out [][]impl.CoverStep
	for _, many := range []int{impl.MaxCoverSteps + 1, impl.MaxCoverSteps + 2, 2 * impl.MaxCoverSteps, 256, mostTick + 1, 100000} {
		for _, s := range []impl.CoverStep{plainTick, saying("a"), {}} {
			out = append(out, slices.Repeat([]impl.CoverStep{s}, many))
		}
	}
	return out
}
