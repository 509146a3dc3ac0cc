package tests

import (
	"math/rand"
	"slices"
	"strings"
	"testing"

	"loop.example/g00549/impl"
)

// covered is what a function of chapter 10 tells, whichever it is.
type covered struct {
	c     impl.Client
	emit  impl.Emit
	text  string
	emits []impl.Emit
	texts []string
	did   []bool
	steps []impl.CoverStep
	n     int
	ok    bool
}

// coverCall is one call of a function of chapter 10; n is the ticks of TraceOf.
type coverCall struct {
	name  string
	c     impl.Client
	s     impl.CoverStep
	ways  int
	n     int
	steps []impl.CoverStep
	text  string
}

func (c coverCall) run() covered {
	var out covered
	switch c.name {
	case "NewClient":
		out.c, out.ok = impl.NewClient(c.ways)
	case "GoodClient":
		out.ok = impl.GoodClient(c.c)
	case "StepClient":
		out.c, out.emit, out.text, out.ok = impl.StepClient(c.c, c.s)
	case "PlayCover":
		out.emits, out.texts, out.did, out.ok = impl.PlayCover(c.ways, c.steps)
	case "TraceOf":
		out.emits, out.ok = impl.TraceOf(c.ways, c.n)
	case "EraseSays":
		out.steps, out.ok = impl.EraseSays(c.steps)
	case "WaitFor":
		out.n, out.ok = impl.WaitFor(c.c, c.text)
	}
	return out
}

func (c coverCall) isLong() bool {
	return len(c.c.Queue) > 200 || len(c.steps) > 200 || len(c.s.Text) > 200 || len(c.text) > 200
}

func (x covered) isAlike(y covered) bool {
	return alikeClients(x.c, y.c) && x.emit == y.emit && x.text == y.text && slices.Equal(x.emits, y.emits) && slices.Equal(x.texts, y.texts) && slices.Equal(x.did, y.did) && slices.Equal(x.steps, y.steps) && x.n == y.n && x.ok == y.ok
}

func isRefusedCover(t *testing.T, c coverCall) {
	t.Helper()
	if got := c.run(); !got.isAlike(covered{}) {
		if c.isLong() {
			c = coverCall{name: c.name + " of very many"}
		}
		t.Fatalf("%#v: %#v", c, got)
	}
}

func TestWrongWaysGetTheZeroAnswer(t *testing.T) {
	r := rand.New(rand.NewSource(1010))
	for _, ways := range wrongWays() {
		isRefusedCover(t, coverCall{name: "NewClient", ways: ways})
		for ticks := range impl.MaxCoverSteps + 1 {
			isRefusedCover(t, coverCall{name: "TraceOf", ways: ways, n: ticks})
			isRefusedCover(t, coverCall{name: "PlayCover", ways: ways, steps: drawnSteps(r, ticks, ticks/2)})
		}
		for _, ticks := range wrongManyTicks() {
			isRefusedCover(t, coverCall{name: "TraceOf", ways: ways, n: ticks})
		}
		for _, steps := range tooManySteps() {
			isRefusedCover(t, coverCall{name: "PlayCover", ways: ways, steps: steps})
		}
	}
}

func TestTooManyTicksGetTheZeroAnswer(t *testing.T) {
	for ways := 1; ways <= mostWays; ways++ {
		for _, ticks := range wrongManyTicks() {
			isRefusedCover(t, coverCall{name: "TraceOf", ways: ways, n: ticks})
		}
	}
}

func TestTooManyStepsGetTheZeroAnswer(t *testing.T) {
	for _, steps := range tooManySteps() {
		isRefusedCover(t, coverCall{name: "EraseSays", steps: steps})
		for ways := 1; ways <= mostWays; ways++ {
			isRefusedCover(t, coverCall{name: "PlayCover", ways: ways, steps: steps})
		}
	}
}

// As many steps as may be are played, and one more is not, whatever it is.
func TestTheMostSteps(t *testing.T) {
	r := rand.New(rand.NewSource(1011))
	for _, s := range someSteps() {
		steps := drawnSteps(r, impl.MaxCoverSteps, 40)
		isCoveredAsSaid(t, 3, steps)
		isRefusedCover(t, coverCall{name: "PlayCover", ways: 3, steps: append(steps, s)})
		isRefusedCover(t, coverCall{name: "EraseSays", steps: append(steps, s)})
	}
}

func TestWrongClientsGetTheZeroAnswer(t *testing.T) {
	for _, c := range wrongClients() {
		isRefusedCover(t, coverCall{name: "GoodClient", c: c})
		for _, s := range someSteps() {
			isRefusedCover(t, coverCall{name: "StepClient", c: c, s: s})
		}
		for _, text := range append([]string{"", "a", "not there"}, c.Queue[:min(len(c.Queue), 6)]...) {
			isRefusedCover(t, coverCall{name: "WaitFor", c: c, text: text})
		}
	}
}

func TestTextsThatAreNotThereGetTheZeroAnswer(t *testing.T) {
	for _, c := range someClients() {
		for _, text := range append(tooLongSayings(), "not there", "same ", "sam", "SAME", "said") {
			isRefusedCover(t, coverCall{name: "WaitFor", c: c, text: text})
		}
	}
}

// anyCoverCalls are calls of each function, good ones and others.
func anyCoverCalls() []coverCall {
	r := rand.New(rand.NewSource(1012))
	var out []coverCall
	steps := []impl.CoverStep{plainTick, saying("new"), saying(""), saying("just 15 letters"), saying("just 16 letters!"), {Kind: impl.CvTick, Text: "x"}, {Kind: 3, Text: "y"}, {}}
	for _, c := range append(someClients(), wrongClients()...) {
		out = append(out, coverCall{name: "GoodClient", c: c})
		for _, s := range steps {
			out = append(out, coverCall{name: "StepClient", c: c, s: s})
		}
		for _, text := range append([]string{"", "a", "not there"}, c.Queue[:min(len(c.Queue), 6)]...) {
			out = append(out, coverCall{name: "WaitFor", c: c, text: text})
		}
	}
	for many := range impl.MaxCoverSteps + 3 {
		for ways := range mostWays + 2 {
			steps := drawnSteps(r, many, r.Intn(many+1))
			out = append(out, coverCall{name: "PlayCover", ways: ways, steps: steps}, coverCall{name: "EraseSays", steps: steps}, coverCall{name: "TraceOf", ways: ways, n: many}, coverCall{name: "NewClient", ways: ways})
		}
	}
	return slices.DeleteFunc(out, coverCall.isLong)
}

// withRoomBehind is c with other memory behind each of its lists, and all of
// that memory.
func (c coverCall) withRoomBehind() (coverCall, coverCall) {
	held := c
	c.c.Queue, held.c.Queue = withRoom(c.c.Queue, "behind")
	c.steps, held.steps = withRoom(c.steps, plainTick)
	return c, held
}

func (c coverCall) clone() coverCall {
	c.c.Queue, c.steps = slices.Clone(c.c.Queue), slices.Clone(c.steps)
	return c
}

func (c coverCall) isKept(was coverCall) bool {
	return slices.Equal(c.c.Queue, was.c.Queue) && slices.Equal(c.steps, was.steps)
}

func (x covered) handsOutBehind() bool {
	for _, l := range [][]string{x.c.Queue, x.texts} {
		if strings.Join(l[len(l):cap(l)], "") != "" {
			return true
		}
	}
	for _, emit := range x.emits[len(x.emits):cap(x.emits)] {
		if emit != (impl.Emit{}) {
			return true
		}
	}
	for _, s := range x.steps[len(x.steps):cap(x.steps)] {
		if s != (impl.CoverStep{}) {
			return true
		}
	}
	return slices.Contains(x.did[len(x.did):cap(x.did)], true)
}

func (x covered) scribble() {
	for _, l := range [][]string{x.c.Queue, x.texts} {
		scribbleOver(l, func(s string) string { return s + "scribbled" })
	}
	scribbleOver(x.emits, func(impl.Emit) impl.Emit { return impl.Emit{Tick: 77, Way: 77, Long: 77} })
	scribbleOver(x.did, func(is bool) bool { return !is })
	scribbleOver(x.steps, func(impl.CoverStep) impl.CoverStep { return saying("scribbled") })
}

func TestCoverNeitherWritesNorShares(t *testing.T) {
	for _, c := range anyCoverCalls() {
		given, held := c.withRoomBehind()
		was := held.clone()
		got := given.run()
		if !held.isKept(was) {
			t.Fatalf("%#v writes into an argument", c)
		}
		if !got.isAlike(c.run()) {
			t.Fatalf("%#v hangs on what lies behind the lists", c)
		}
		if got.handsOutBehind() {
			t.Fatalf("%#v hands out what lies behind", c)
		}
		got.scribble()
		if !held.isKept(was) {
			t.Fatalf("%#v shares memory with an argument", c)
		}
		if !given.run().isAlike(c.run()) {
			t.Fatalf("%#v is another one the second time", c)
		}
	}
}

// The texts of an answer are no argument's memory, and no two of them are one's.
func TestTextsOfACoverAnswerAreNewOnes(t *testing.T) {
	for _, c := range anyCoverCalls() {
		taken := map[*byte]bool{}
		given := append(slices.Clone(c.c.Queue), c.s.Text, c.text)
		for _, s := range c.steps {
			given = append(given, s.Text)
		}
		for _, at := range dataOf(given) {
			taken[at] = true
		}
		got := c.run()
		for _, at := range dataOf(slices.Concat(got.c.Queue, got.texts, []string{got.text})) {
			if taken[at] {
				t.Fatalf("%#v tells a text that is other memory", c)
			}
			taken[at] = true
		}
	}
}

// Each list of what PlayCover tells is memory of its own.
func TestListsOfOneCoverAnswerShareNothing(t *testing.T) {
	for _, c := range anyCoverCalls() {
		want := c.run()
		texts := c.run()
		scribbleOver(texts.texts, func(s string) string { return s + "scribbled" })
		texts.texts = want.texts
		queue := c.run()
		scribbleOver(queue.c.Queue, func(s string) string { return s + "scribbled" })
		queue.c.Queue = want.c.Queue
		if !texts.isAlike(want) || !queue.isAlike(want) {
			t.Fatalf("%#v: a list is another one's, too", c)
		}
	}
}

// A client goes on twice from one Queue, each time on its own.
func TestClientsThatSharedAQueue(t *testing.T) {
	all := []string{"a", "b", "c", "d"}
	c := impl.Client{Queue: all[:2], Ways: 2}
	isStepped(t, c, saying("x"), impl.Client{Queue: []string{"a", "b", "x"}, Ways: 2}, impl.Emit{}, "")
	one, _, _, _ := impl.StepClient(c, saying("one"))
	two, _, _, _ := impl.StepClient(one, saying("two"))
	other, _, _, _ := impl.StepClient(one, saying("other"))
	ticked, _, _, _ := impl.StepClient(one, plainTick)
	again, _, _, _ := impl.StepClient(ticked, saying("again"))
	if !slices.Equal(two.Queue, []string{"a", "b", "one", "two"}) || !slices.Equal(other.Queue, []string{"a", "b", "one", "other"}) || !slices.Equal(again.Queue, []string{"b", "one", "again"}) {
		t.Error(two, other, again)
	}
	if !slices.Equal(all, []string{"a", "b", "c", "d"}) || !slices.Equal(one.Queue, []string{"a", "b", "one"}) || !slices.Equal(ticked.Queue, []string{"b", "one"}) {
		t.Error(all, one, ticked)
	}
}

func TestNoStepsAndNoQueuesAreTheNilOnes(t *testing.T) {
	for _, c := range anyCoverCalls() {
		empty := c
		empty.c.Queue = append([]string{}, c.c.Queue...)
		empty.steps = append([]impl.CoverStep{}, c.steps...)
		if !empty.run().isAlike(c.run()) {
			t.Fatalf("%#v", c)
		}
	}
}
