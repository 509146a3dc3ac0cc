package tests

import (
	"math/rand"
	"slices"
	"strings"
	"testing"

	"loop.example/g00549/impl"
)

func isStepped(t *testing.T, c impl.Client, s impl.CoverStep, want impl.Client, emit impl.Emit, text string) {
	t.Helper()
	got, out, told, ok := impl.StepClient(c, s)
	if !ok || !alikeClients(got, want) || out != emit || told != text {
		t.Fatalf("StepClient(%#v, %#v): %#v, %v, %q, %v, not %#v, %v, %q", c, s, got, out, told, ok, want, emit, text)
	}
}

func isNotDone(t *testing.T, c impl.Client, s impl.CoverStep) {
	t.Helper()
	isRefusedCover(t, coverCall{name: "StepClient", c: c, s: s})
}

func isCovered(t *testing.T, ways int, l []impl.CoverStep, emits []impl.Emit, texts []string, did []bool) {
	t.Helper()
	gotEmits, gotTexts, gotDid, ok := impl.PlayCover(ways, l)
	if !ok || !slices.Equal(gotEmits, emits) || !slices.Equal(gotTexts, texts) || !slices.Equal(gotDid, did) {
		t.Fatalf("PlayCover(%d, %#v): %v, %q, %v, %v, not %v, %q, %v", ways, l, gotEmits, gotTexts, gotDid, ok, emits, texts, did)
	}
}

func isCoveredAsSaid(t *testing.T, ways int, l []impl.CoverStep) {
	t.Helper()
	emits, texts, did := coverThere(ways, l)
	isCovered(t, ways, l, emits, texts, did)
}

func isWaited(t *testing.T, c impl.Client, s string, want int) {
	t.Helper()
	if got, ok := impl.WaitFor(c, s); got != want || ok != (want > 0) {
		t.Fatalf("WaitFor(%#v, %q): %d, %v, not %d", c, s, got, ok, want)
	}
}

// showsTheSame holds what is seen of a play, and of what is left of it without
// its sayings, against what is seen of as many ticks.
func showsTheSame(t *testing.T, ways int, l []impl.CoverStep, ticks int) {
	t.Helper()
	want := traceThere(ways, ticks)
	if got, _, _, ok := impl.PlayCover(ways, l); !ok || !slices.Equal(got, want) {
		t.Fatalf("PlayCover(%d, %#v) shows %v, %v, not %v", ways, l, got, ok, want)
	}
	if got, ok := impl.TraceOf(ways, ticks); !ok || !slices.Equal(got, want) {
		t.Fatalf("TraceOf(%d, %d): %v, %v, not %v", ways, ticks, got, ok, want)
	}
	erased, ok := impl.EraseSays(l)
	if !ok || len(erased) != ticks {
		t.Fatalf("EraseSays(%#v): %#v, %v", l, erased, ok)
	}
	if got, texts, _, ok := impl.PlayCover(ways, erased); !ok || !slices.Equal(got, want) || strings.Join(texts, "") != "" {
		t.Fatalf("PlayCover(%d, %#v) shows %v, %q, %v, not %v", ways, erased, got, texts, ok, want)
	}
}

func TestCoverLimits(t *testing.T) {
	if impl.MaxQueue != 5 || impl.MaxCoverSteps != 80 || impl.CvSay != 1 || impl.CvTick != 2 {
		t.Error(impl.MaxQueue, impl.MaxCoverSteps, impl.CvSay, impl.CvTick)
	}
}

func TestNewClients(t *testing.T) {
	for ways := -1; ways <= 6; ways++ {
		want, is := impl.Client{}, ways >= 1 && ways <= 4
		if is {
			want.Ways = ways
		}
		if got, ok := impl.NewClient(ways); !alikeClients(got, want) || ok != is || impl.GoodClient(got) != is {
			t.Errorf("NewClient(%d): %#v, %v", ways, got, ok)
		}
	}
}

func TestGoodClients(t *testing.T) {
	for _, c := range someClients() {
		if !impl.GoodClient(c) {
			t.Fatalf("%#v is not good", c)
		}
	}
	for _, c := range wrongClients() {
		if impl.GoodClient(c) {
			t.Fatalf("%#v is good", c)
		}
	}
}

func TestGoodClientsAtEachLimit(t *testing.T) {
	for tick := -1; tick <= 1001; tick++ {
		for ways := range 6 {
			is := tick >= 0 && tick <= 1000 && ways >= 1 && ways <= 4
			if impl.GoodClient(impl.Client{Queue: []string{"a"}, Tick: tick, Ways: ways}) != is {
				t.Errorf("Tick %d, %d Ways: good is %v", tick, ways, !is)
			}
		}
	}
	for many := range 8 {
		for long := range 20 {
			is := many <= 5 && (long <= 15 || many == 0)
			if impl.GoodClient(impl.Client{Queue: slices.Repeat([]string{strings.Repeat("a", long)}, many), Ways: 4}) != is {
				t.Errorf("%d texts of %d bytes: good is %v", many, long, !is)
			}
		}
	}
}

func TestSayingsByHand(t *testing.T) {
	isStepped(t, impl.Client{Ways: 1}, saying("hi"), impl.Client{Queue: []string{"hi"}, Ways: 1}, impl.Emit{}, "")
	isStepped(t, impl.Client{Ways: 1}, saying(""), impl.Client{Queue: []string{""}, Ways: 1}, impl.Emit{}, "")
	four := impl.Client{Queue: []string{"d", "c", "b", "a"}, Tick: 9, Ways: 3}
	full := impl.Client{Queue: []string{"d", "c", "b", "a", "d"}, Tick: 9, Ways: 3}
	isStepped(t, four, saying("d"), full, impl.Emit{}, "")
	isNotDone(t, full, saying("d"))
	isNotDone(t, full, saying(""))
	isStepped(t, four, saying("just 15 letters"), impl.Client{Queue: []string{"d", "c", "b", "a", "just 15 letters"}, Tick: 9, Ways: 3}, impl.Emit{}, "")
	isNotDone(t, four, saying("just 16 letters!"))
	isStepped(t, impl.Client{Tick: 1000, Ways: 4}, saying("late"), impl.Client{Queue: []string{"late"}, Tick: 1000, Ways: 4}, impl.Emit{}, "")
}

// Into a Queue of each length, texts of each length.
func TestEachSaying(t *testing.T) {
	for many := range impl.MaxQueue + 1 {
		queue := []string{"one", "", "three", "four", "five"}[:many]
		for long := range 20 {
			text := strings.Repeat("s", long)
			for _, tick := range []int{0, 1, 999, 1000} {
				c := impl.Client{Queue: queue, Tick: tick, Ways: 2}
				if many < 5 && long <= 15 {
					isStepped(t, c, saying(text), impl.Client{Queue: slices.Concat(queue, []string{text}), Tick: tick, Ways: 2}, impl.Emit{}, "")
				} else {
					isNotDone(t, c, saying(text))
				}
			}
		}
	}
}

func TestClientTicksByHand(t *testing.T) {
	isStepped(t, impl.Client{Ways: 1}, plainTick, impl.Client{Tick: 1, Ways: 1}, impl.Emit{Tick: 0, Way: 0, Long: 24}, "")
	isStepped(t, impl.Client{Tick: 7, Ways: 4}, plainTick, impl.Client{Tick: 8, Ways: 4}, impl.Emit{Tick: 7, Way: 3, Long: 24}, "")
	isStepped(t, impl.Client{Queue: []string{"a"}, Tick: 7, Ways: 3}, plainTick, impl.Client{Tick: 8, Ways: 3}, impl.Emit{Tick: 7, Way: 1, Long: 24}, "a")
	isStepped(t, impl.Client{Queue: []string{"b", "a"}, Ways: 2}, plainTick, impl.Client{Queue: []string{"a"}, Tick: 1, Ways: 2}, impl.Emit{Tick: 0, Way: 0, Long: 24}, "b")
	isStepped(t, impl.Client{Queue: []string{"", "a"}, Ways: 2}, plainTick, impl.Client{Queue: []string{"a"}, Tick: 1, Ways: 2}, impl.Emit{Tick: 0, Way: 0, Long: 24}, "")
	full := impl.Client{Queue: []string{"e", "a", "e", "just 15 letters", ""}, Tick: 999, Ways: 4}
	isStepped(t, full, plainTick, impl.Client{Queue: full.Queue[1:], Tick: 1000, Ways: 4}, impl.Emit{Tick: 999, Way: 3, Long: 24}, "e")
}

func TestTheLastTick(t *testing.T) {
	for _, queue := range someQueues() {
		for ways := 1; ways <= mostWays; ways++ {
			isNotDone(t, impl.Client{Queue: queue, Tick: 1000, Ways: ways}, plainTick)
			got, emit, _, ok := impl.StepClient(impl.Client{Queue: queue, Tick: 999, Ways: ways}, plainTick)
			if !ok || got.Tick != 1000 || emit != (impl.Emit{Tick: 999, Way: 999 % ways, Long: 24}) || !impl.GoodClient(got) {
				t.Errorf("%q, %d ways: %#v, %v, %v", queue, ways, got, emit, ok)
			}
		}
	}
}

func TestTicksWithAText(t *testing.T) {
	for _, c := range someClients() {
		for _, s := range []string{"a", "\x00", " ", "same", "just 15 letters", "just 16 letters!"} {
			isNotDone(t, c, impl.CoverStep{Kind: impl.CvTick, Text: s})
		}
	}
}

// From way to way in turn, at all ticks that there are, whatever is in the
// Queue.
func TestTheWayAtEachTick(t *testing.T) {
	for ways := 1; ways <= mostWays; ways++ {
		turn := 0
		for tick := range mostTick {
			for many := range impl.MaxQueue + 1 {
				queue := []string{"first", "", "third", "4", "5"}[:many]
				want, text := impl.Client{Queue: queue, Tick: tick + 1, Ways: ways}, ""
				if many > 0 {
					want.Queue, text = queue[1:], queue[0]
				}
				isStepped(t, impl.Client{Queue: queue, Tick: tick, Ways: ways}, plainTick, want, impl.Emit{Tick: tick, Way: turn, Long: 24}, text)
			}
			turn = (turn + 1) % ways
		}
	}
}

// A text leaves behind all those ahead of it, and ticks go on once all have
// left.
func TestAQueueLeavesInItsOrder(t *testing.T) {
	for _, queue := range someQueues() {
		c := impl.Client{Queue: queue, Tick: 3, Ways: 3}
		for i := range 8 {
			next, emit, text, ok := impl.StepClient(c, plainTick)
			want := ""
			if i < len(queue) {
				want = queue[i]
			}
			left := queue[min(i+1, len(queue)):]
			if !ok || text != want || !slices.Equal(next.Queue, left) || emit != (impl.Emit{Tick: 3 + i, Way: i % 3, Long: 24}) {
				t.Fatalf("tick %d of %q: %#v, %v, %q, %v", i, queue, next, emit, text, ok)
			}
			c = next
		}
	}
}

func TestOtherKindsAreNotDone(t *testing.T) {
	for _, kind := range noKinds() {
		for _, c := range someClients() {
			isNotDone(t, c, impl.CoverStep{Kind: kind})
			isNotDone(t, c, impl.CoverStep{Kind: kind, Text: "hi"})
		}
	}
}

func TestStepsAreAsSaid(t *testing.T) {
	done := 0
	for _, c := range someClients() {
		for _, s := range someSteps() {
			k := tellerOf(c)
			emit, text, is := k.step(s)
			if !is {
				isNotDone(t, c, s)
				continue
			}
			done++
			isStepped(t, c, s, k.client(), emit, text)
			if got, _, _, _ := impl.StepClient(c, s); !impl.GoodClient(got) {
				t.Fatalf("%#v is not good behind %#v", got, s)
			}
		}
	}
	if done < 1000 {
		t.Error(done)
	}
}

func TestCoverByHand(t *testing.T) {
	emits := []impl.Emit{{Tick: 0, Way: 0, Long: 24}, {Tick: 1, Way: 1, Long: 24}, {Tick: 2, Way: 0, Long: 24}}
	yes, no := true, false
	isCovered(t, 2, []impl.CoverStep{saying("hi"), plainTick, plainTick}, emits[:2], []string{"hi", ""}, []bool{yes, yes, yes})
	isCovered(t, 2, []impl.CoverStep{plainTick, saying("hi"), plainTick}, emits[:2], []string{"", "hi"}, []bool{yes, yes, yes})
	isCovered(t, 2, []impl.CoverStep{plainTick, plainTick, saying("hi")}, emits[:2], []string{"", ""}, []bool{yes, yes, yes})
	isCovered(t, 2, []impl.CoverStep{saying("a"), saying("b"), plainTick, saying("c"), plainTick, plainTick}, emits, []string{"a", "b", "c"}, []bool{yes, yes, yes, yes, yes, yes})
	isCovered(t, 2, []impl.CoverStep{saying(""), saying("b"), plainTick, plainTick}, emits[:2], []string{"", "b"}, []bool{yes, yes, yes, yes})
	isCovered(t, 1, []impl.CoverStep{{}, {Kind: 2, Text: "x"}, plainTick, saying("just 16 letters!")}, []impl.Emit{{Long: 24}}, []string{""}, []bool{no, no, yes, no})
	isCovered(t, 4, []impl.CoverStep{saying("1"), saying("2"), saying("3"), saying("4"), saying("5"), saying("6"), plainTick, saying("7")}, emits[:1], []string{"1"}, []bool{yes, yes, yes, yes, yes, no, yes, yes})
	isCovered(t, 3, nil, nil, nil, nil)
	isCovered(t, 3, []impl.CoverStep{saying("x")}, nil, nil, []bool{yes})
}

// All lists of few steps of each sort.
func TestCoverOfAllFewSteps(t *testing.T) {
	from := []impl.CoverStep{plainTick, saying("a"), saying(""), saying("just 16 letters!"), {Kind: impl.CvTick, Text: "x"}, {Kind: 3}}
	for ways := 1; ways <= mostWays; ways++ {
		for many := range 5 {
			for l := range eachListOf(from, many) {
				isCoveredAsSaid(t, ways, l)
				showsTheSame(t, ways, l, ticksIn(l))
			}
		}
		for l := range eachListOf(from[:2], 9) {
			isCoveredAsSaid(t, ways, l)
			showsTheSame(t, ways, l, ticksIn(l))
		}
	}
}

// Two sorts of steps, so that Queues are full and empty at many places.
func TestCoverOfSayingsAndTicks(t *testing.T) {
	r := rand.New(rand.NewSource(101))
	refused := 0
	for n := range 2000 {
		var l []impl.CoverStep
		for i := range impl.MaxCoverSteps {
			if r.Intn(10) < 2+n%7 {
				l = append(l, saying(string([]byte{'a' + byte(i%26), byte(i)})))
			} else {
				l = append(l, plainTick)
			}
		}
		_, _, did := coverThere(1, l)
		if slices.Contains(did, false) {
			refused++
		}
		isCoveredAsSaid(t, 1+n%mostWays, l)
	}
	if refused < 500 || refused > 1900 {
		t.Error(refused)
	}
}

func TestCoverOfDrawnSteps(t *testing.T) {
	r := rand.New(rand.NewSource(102))
	for many := range impl.MaxCoverSteps + 1 {
		for ways := 1; ways <= mostWays; ways++ {
			for range 5 {
				isCoveredAsSaid(t, ways, drawnSteps(r, many, r.Intn(many+1)))
			}
		}
	}
}

func TestCoverStepByStep(t *testing.T) {
	r := rand.New(rand.NewSource(103))
	for n := range 300 {
		ways := 1 + n%mostWays
		l := drawnSteps(r, impl.MaxCoverSteps, r.Intn(impl.MaxCoverSteps+1))
		c, _ := impl.NewClient(ways)
		var emits []impl.Emit
		var texts []string
		var did []bool
		for _, s := range l {
			next, emit, text, done := impl.StepClient(c, s)
			did = append(did, done)
			if done && s.Kind == impl.CvTick {
				emits, texts = append(emits, emit), append(texts, text)
			}
			if done {
				c = next
			}
			if !impl.GoodClient(c) {
				t.Fatalf("%#v is not good", c)
			}
		}
		isCovered(t, ways, l, emits, texts, did)
	}
}

// As many ticks show the same, whatever else is said wherever.
func TestWhatGoesOutIsTheSameWhateverIsSaid(t *testing.T) {
	r := rand.New(rand.NewSource(104))
	for ways := 1; ways <= mostWays; ways++ {
		for _, many := range []int{0, 1, 2, 3, 5, 8, 20, 40, impl.MaxCoverSteps - 1, impl.MaxCoverSteps} {
			for ticks := range many + 1 {
				showsTheSame(t, ways, slices.Repeat([]impl.CoverStep{plainTick}, ticks), ticks)
				for range 4 {
					showsTheSame(t, ways, drawnSteps(r, many, ticks), ticks)
				}
			}
		}
	}
}

// One saying more, of any text at any place, is not to be seen.
func TestOneSayingMoreIsNotSeen(t *testing.T) {
	r := rand.New(rand.NewSource(105))
	for ways := 1; ways <= mostWays; ways++ {
		for _, many := range []int{0, 1, 2, 10, impl.MaxCoverSteps - 1} {
			l := drawnSteps(r, many, (many+1)/2)
			for at := range many + 1 {
				for _, text := range []string{"", "a", "just 15 letters", "just 16 letters!"} {
					showsTheSame(t, ways, slices.Insert(slices.Clone(l), at, saying(text)), (many+1)/2)
				}
			}
		}
	}
}

// Queues that are full and such that are empty show the same.
func TestFullAndEmptyQueuesShowTheSame(t *testing.T) {
	const ticks = 40
	for ways := 1; ways <= mostWays; ways++ {
		showsTheSame(t, ways, slices.Repeat([]impl.CoverStep{plainTick}, ticks), ticks)
		showsTheSame(t, ways, slices.Repeat([]impl.CoverStep{saying("a"), plainTick}, ticks), ticks)
		showsTheSame(t, ways, slices.Repeat([]impl.CoverStep{plainTick, saying("just 15 letters")}, ticks), ticks)
		showsTheSame(t, ways, slices.Concat(slices.Repeat([]impl.CoverStep{saying("")}, ticks), slices.Repeat([]impl.CoverStep{plainTick}, ticks)), ticks)
		showsTheSame(t, ways, slices.Concat(slices.Repeat([]impl.CoverStep{plainTick}, ticks), slices.Repeat([]impl.CoverStep{saying("b")}, ticks)), ticks)
	}
}

// What is not done leaves all that goes out, the texts too, as it is without.
func TestAStepThatIsNotDoneChangesNothing(t *testing.T) {
	r := rand.New(rand.NewSource(106))
	for ways := 1; ways <= mostWays; ways++ {
		for _, many := range []int{0, 1, 3, 12, impl.MaxCoverSteps - 1} {
			l := drawnSteps(r, many, many/2)
			emits, texts, did := coverThere(ways, l)
			for _, s := range neverDone() {
				for _, at := range []int{0, many / 3, many / 2, many} {
					isCovered(t, ways, slices.Insert(slices.Clone(l), at, s), emits, texts, slices.Insert(slices.Clone(did), at, false))
				}
			}
		}
	}
}

// One text more than there is room for, at each place where the Queue is full.
func TestASayingWithoutRoomChangesNothing(t *testing.T) {
	r := rand.New(rand.NewSource(107))
	tried := 0
	for n := range 100 {
		l := drawnSteps(r, impl.MaxCoverSteps-1, 20)
		ways := 1 + n%mostWays
		emits, texts, did := coverThere(ways, l)
		k := &teller{ways: ways}
		for at, s := range l {
			if len(k.client().Queue) == impl.MaxQueue {
				tried++
				isCovered(t, ways, slices.Insert(slices.Clone(l), at, saying("no room")), emits, texts, slices.Insert(slices.Clone(did), at, false))
			}
			k.step(s)
		}
	}
	if tried < 500 {
		t.Error(tried)
	}
}

// All that was said and done goes out once, in the order in which it was said.
func TestAllThatIsSaidGoesOutInOrder(t *testing.T) {
	r := rand.New(rand.NewSource(108))
	for n := range 200 {
		l := drawnSteps(r, impl.MaxCoverSteps-impl.MaxQueue, r.Intn(impl.MaxCoverSteps-impl.MaxQueue+1))
		l = append(l, slices.Repeat([]impl.CoverStep{plainTick}, impl.MaxQueue)...)
		_, texts, did, ok := impl.PlayCover(1+n%mostWays, l)
		var said, out []string
		for i, s := range l {
			if s.Kind == impl.CvSay && did[i] && s.Text != "" {
				said = append(said, s.Text)
			}
		}
		for _, s := range texts {
			if s != "" {
				out = append(out, s)
			}
		}
		if !ok || !slices.Equal(out, said) {
			t.Fatalf("%#v: %q go out, %q were said", l, out, said)
		}
	}
}

func TestTraces(t *testing.T) {
	for ways := -1; ways <= 6; ways++ {
		for ticks := -2; ticks <= impl.MaxCoverSteps+3; ticks++ {
			is := ways >= 1 && ways <= 4 && ticks >= 0 && ticks <= 80
			var want []impl.Emit
			if is {
				want = traceThere(ways, ticks)
			}
			if got, ok := impl.TraceOf(ways, ticks); !slices.Equal(got, want) || ok != is {
				t.Fatalf("TraceOf(%d, %d): %v, %v, not %v", ways, ticks, got, ok, want)
			}
		}
	}
	got, ok := impl.TraceOf(3, 4)
	if !ok || !slices.Equal(got, []impl.Emit{{Long: 24}, {Tick: 1, Way: 1, Long: 24}, {Tick: 2, Way: 2, Long: 24}, {Tick: 3, Long: 24}}) {
		t.Error(got, ok)
	}
}

func TestErasedSays(t *testing.T) {
	isErased := func(l []impl.CoverStep) {
		t.Helper()
		want := slices.Repeat([]impl.CoverStep{plainTick}, ticksIn(l))
		if got, ok := impl.EraseSays(l); !ok || !slices.Equal(got, want) {
			t.Fatalf("EraseSays(%#v): %#v, %v", l, got, ok)
		}
	}
	isErased(nil)
	isErased(neverDone()[:impl.MaxCoverSteps])
	for _, s := range someSteps() {
		isErased([]impl.CoverStep{s})
		isErased([]impl.CoverStep{plainTick, s, plainTick})
		isErased(slices.Repeat([]impl.CoverStep{s}, impl.MaxCoverSteps))
	}
	r := rand.New(rand.NewSource(109))
	for many := range impl.MaxCoverSteps + 1 {
		for ticks := range many + 1 {
			isErased(drawnSteps(r, many, ticks))
		}
	}
}

func TestErasingTwiceIsErasingOnce(t *testing.T) {
	r := rand.New(rand.NewSource(110))
	for range 200 {
		once, _ := impl.EraseSays(drawnSteps(r, impl.MaxCoverSteps, r.Intn(impl.MaxCoverSteps+1)))
		if twice, ok := impl.EraseSays(once); !ok || !slices.Equal(twice, once) {
			t.Fatalf("%#v, %#v, %v", once, twice, ok)
		}
	}
}

func TestWaitsByHand(t *testing.T) {
	c := impl.Client{Queue: []string{"a", "b", "", "a", "c"}, Tick: 5, Ways: 2}
	isWaited(t, c, "a", 1)
	isWaited(t, c, "b", 2)
	isWaited(t, c, "", 3)
	isWaited(t, c, "c", 5)
	isWaited(t, c, "d", 0)
	isWaited(t, c, "ab", 0)
	isWaited(t, c, "a\x00", 0)
	isWaited(t, c, "just 16 letters!", 0)
	isWaited(t, impl.Client{Ways: 1}, "", 0)
	isWaited(t, impl.Client{Ways: 1}, "a", 0)
	isWaited(t, impl.Client{Queue: []string{"b", "a", "a"}, Ways: 1}, "a", 2)
	isWaited(t, impl.Client{Queue: []string{"", "", ""}, Ways: 1}, "", 1)
	isWaited(t, impl.Client{Queue: []string{"just 15 letters"}, Ways: 1}, "just 15 letters", 1)
}

// A text of the Queue leaves with that tick, and the Queue has it ahead of it.
func TestAWaitIsThatManyTicks(t *testing.T) {
	for _, c := range someClients() {
		if c.Tick+len(c.Queue) > mostTick {
			continue
		}
		for _, s := range append([]string{"", "a", "not there"}, c.Queue...) {
			want := slices.Index(c.Queue, s) + 1
			isWaited(t, c, s, want)
			after := c
			for tick := 1; tick <= want; tick++ {
				next, _, text, ok := impl.StepClient(after, plainTick)
				if !ok || (text == s) != (tick == want) {
					t.Fatalf("tick %d for %q of %#v: %q, %v", tick, s, c, text, ok)
				}
				after = next
			}
		}
	}
}

// The document asks for nothing but that the text is in the Queue.
func TestWaitsAtTheLastTicks(t *testing.T) {
	for _, tick := range []int{mostTick - 1, mostTick} {
		c := impl.Client{Queue: []string{"a", "b", "c", "d", "e"}, Tick: tick, Ways: 4}
		for i, s := range c.Queue {
			isWaited(t, c, s, i+1)
		}
	}
}

// Each tick makes the wait one shorter, and a text that is said waits for all
// ahead of it.
func TestWaitsGoDown(t *testing.T) {
	c := impl.Client{Ways: 2}
	for i := range impl.MaxQueue {
		text := strings.Repeat("w", i+1)
		isWaited(t, c, text, 0)
		next, _, _, _ := impl.StepClient(c, saying(text))
		isWaited(t, next, text, i+1)
		c = next
	}
	for left := impl.MaxQueue; left > 0; left-- {
		isWaited(t, c, "wwwww", left)
		next, _, _, _ := impl.StepClient(c, plainTick)
		c = next
	}
	isWaited(t, c, "wwwww", 0)
}
