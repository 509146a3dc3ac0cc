package tests

import (
	"slices"
	"strings"
	"testing"

	"loop.example/g00549/impl"
)

// layered is what a function of chapter 7 tells, whichever it is.
type layered struct {
	n    int
	text string
	p    impl.Peeled
	hops []int
	ok   bool
}

// layerCall is one call of a function of chapter 7; n is a key, many a length.
type layerCall struct {
	name string
	keys []int
	hops []int
	n    int
	many int
	s    string
	b    string
}

func (c layerCall) run() layered {
	var out layered
	switch c.name {
	case "PadFor":
		out.text, out.ok = impl.PadFor(c.n, c.many)
	case "XorTexts":
		out.text, out.ok = impl.XorTexts(c.s, c.b)
	case "BuildOnion":
		out.text, out.ok = impl.BuildOnion(c.keys, c.hops, c.s)
	case "PeelOnion":
		out.p, out.ok = impl.PeelOnion(c.n, c.s)
	case "WalkOnion":
		out.hops, out.text, out.ok = impl.WalkOnion(c.keys, c.s)
	case "PadBody":
		out.text, out.ok = impl.PadBody(c.s)
	case "UnpadBody":
		out.text, out.ok = impl.UnpadBody(c.s)
	case "CheckOf":
		out.n, out.ok = impl.CheckOf(c.s)
	}
	return out
}

func (c layerCall) isLong() bool {
	return len(c.keys) > 20 || len(c.hops) > 20 || len(c.s) > 200 || len(c.b) > 200
}

func (x layered) isAlike(y layered) bool {
	return x.n == y.n && x.text == y.text && x.p == y.p && slices.Equal(x.hops, y.hops) && x.ok == y.ok
}

func isRefusedLayer(t *testing.T, c layerCall) {
	t.Helper()
	if got := c.run(); !got.isAlike(layered{}) {
		if c.isLong() {
			c = layerCall{name: c.name + " of very much"}
		}
		t.Errorf("%#v: %#v", c, got)
	}
}

func TestWrongPadsGetTheZeroAnswer(t *testing.T) {
	for _, key := range wrongBlocks() {
		for _, many := range append(wrongPadLengths(), 0, 2, 24, mostLayered) {
			isRefusedLayer(t, layerCall{name: "PadFor", n: key, many: many})
		}
	}
	for _, many := range wrongPadLengths() {
		for _, key := range someBlocks() {
			isRefusedLayer(t, layerCall{name: "PadFor", n: key, many: many})
		}
	}
}

func TestTextsOfUnlikeLengthAreRefused(t *testing.T) {
	for a := range mostLayered + 5 {
		for b := range mostLayered + 5 {
			if a != b || a > mostLayered {
				isRefusedLayer(t, layerCall{name: "XorTexts", s: strings.Repeat("a", a), b: strings.Repeat("a", b)})
				isRefusedLayer(t, layerCall{name: "XorTexts", s: strings.Repeat("\x00", a), b: strings.Repeat("\xff", b)})
			}
		}
	}
	long := strings.Repeat("x", 100000)
	isRefusedLayer(t, layerCall{name: "XorTexts", s: long, b: long})
	isRefusedLayer(t, layerCall{name: "XorTexts", s: long})
	isRefusedLayer(t, layerCall{name: "XorTexts", b: long})
	isRefusedLayer(t, layerCall{name: "XorTexts", s: "é", b: "e"})
}

func TestTooLongTextsHaveNoCheck(t *testing.T) {
	for long := mostLayered + 1; long < 100; long++ {
		for _, b := range []string{"\x00", "\x01", "\xff"} {
			isRefusedLayer(t, layerCall{name: "CheckOf", s: strings.Repeat(b, long)})
		}
	}
	isRefusedLayer(t, layerCall{name: "CheckOf", s: strings.Repeat("é", mostLayered/2+1)})
	isRefusedLayer(t, layerCall{name: "CheckOf", s: strings.Repeat("x", 100000)})
}

func TestTooLongBodiesAreRefused(t *testing.T) {
	for _, body := range tooLongBodies() {
		isRefusedLayer(t, layerCall{name: "PadBody", s: body})
		for _, w := range someTrails() {
			isRefusedLayer(t, layerCall{name: "BuildOnion", keys: w.keys, hops: w.hops, s: body})
		}
	}
}

func TestWhatIsNoPaddedBody(t *testing.T) {
	for _, s := range noPadded() {
		isRefusedLayer(t, layerCall{name: "UnpadBody", s: s})
	}
}

func TestOnionsForNoHandAreNotBuilt(t *testing.T) {
	for _, none := range [][]int{nil, {}} {
		isRefusedLayer(t, layerCall{name: "BuildOnion", keys: none, hops: none, s: "hello"})
		isRefusedLayer(t, layerCall{name: "BuildOnion", keys: none, hops: none})
	}
}

func TestOnionsForTooManyHandsAreNotBuilt(t *testing.T) {
	for _, many := range []int{impl.MaxHops + 1, impl.MaxHops + 2, impl.MaxRounds, 12, 13, 100000} {
		keys, hops := slices.Repeat([]int{7}, many), slices.Repeat([]int{3}, many)
		isRefusedLayer(t, layerCall{name: "BuildOnion", keys: keys, hops: hops, s: "hello"})
		isRefusedLayer(t, layerCall{name: "BuildOnion", keys: keys, hops: hops})
		isRefusedLayer(t, layerCall{name: "BuildOnion", keys: keys, hops: hops[:impl.MaxHops]})
		isRefusedLayer(t, layerCall{name: "BuildOnion", keys: keys[:impl.MaxHops], hops: hops})
	}
}

func TestUnlikeManyKeysAndHops(t *testing.T) {
	for keys := range impl.MaxHops + 3 {
		for hops := range impl.MaxHops + 3 {
			if keys != hops {
				isRefusedLayer(t, layerCall{name: "BuildOnion", keys: slices.Repeat([]int{7}, keys), hops: slices.Repeat([]int{3}, hops), s: "hello"})
			}
		}
	}
}

func TestWrongKeysAndHopsBuildNoOnion(t *testing.T) {
	for _, body := range []string{"", "hello", "fifteen letters"} {
		for _, keys := range wrongAmong(7, wrongBlocks(), impl.MaxHops) {
			isRefusedLayer(t, layerCall{name: "BuildOnion", keys: keys, hops: slices.Repeat([]int{3}, len(keys)), s: body})
		}
		for _, hops := range wrongAmong(3, wrongHops(), impl.MaxHops) {
			isRefusedLayer(t, layerCall{name: "BuildOnion", keys: slices.Repeat([]int{7}, len(hops)), hops: hops, s: body})
		}
	}
}

func TestWrongKeysPeelNothing(t *testing.T) {
	for _, w := range someTrails() {
		s := onionThere(w, "hello")
		for _, wrong := range wrongBlocks() {
			isRefusedLayer(t, layerCall{name: "PeelOnion", n: wrong, s: s})
			for at := range w.keys {
				keys := slices.Clone(w.keys)
				keys[at] = wrong
				isRefusedLayer(t, layerCall{name: "WalkOnion", keys: keys, s: s})
			}
		}
		for _, more := range []int{mostBlock + 1, 1 << 16, 1 << 32} {
			isRefusedLayer(t, layerCall{name: "PeelOnion", n: w.keys[0] + more, s: s})
			isRefusedLayer(t, layerCall{name: "PeelOnion", n: w.keys[0] - more, s: s})
		}
	}
}

func TestWhatIsNoOnion(t *testing.T) {
	texts := noOnions()
	for _, w := range someTrails() {
		s := onionThere(w, "hello")
		texts = append(texts, s[:impl.OnionLong-1], s[:impl.OnionLong-2], s[2:], s+"\x00", s+"\x00\x00", s+s, "\x00"+s)
	}
	for _, s := range texts {
		for _, key := range []int{-1, 0, 7, 11, mostBlock, mostBlock + 1} {
			isRefusedLayer(t, layerCall{name: "PeelOnion", n: key, s: s})
			for many := 1; many <= impl.MaxHops+1; many++ {
				isRefusedLayer(t, layerCall{name: "WalkOnion", keys: slices.Repeat([]int{key}, many), s: s})
			}
		}
	}
}

// An onion that its own key peels, cut or with more behind, is none any more.
func TestItsOwnKeyPeelsNoOtherLength(t *testing.T) {
	for _, w := range someTrails() {
		s := onionThere(w, "hello")
		for _, wrong := range []string{s[:impl.OnionLong-1], s[:impl.OnionLong-6], s + "\x00", s + padThere(w.keys[0], 40)[24:]} {
			isRefusedLayer(t, layerCall{name: "PeelOnion", n: w.keys[0], s: wrong})
			isRefusedLayer(t, layerCall{name: "WalkOnion", keys: w.keys, s: wrong})
		}
	}
}

func TestTooManyKeysWalkNoWay(t *testing.T) {
	for _, w := range someTrails() {
		s := onionThere(w, "hello")
		for key := range 2000 {
			if _, ok := peeledThere(key, s); ok || key%100 == 0 {
				isRefusedLayer(t, layerCall{name: "WalkOnion", keys: slices.Repeat([]int{key}, impl.MaxHops+1), s: s})
			}
		}
		isRefusedLayer(t, layerCall{name: "WalkOnion", keys: slices.Repeat([]int{w.keys[0]}, 100000), s: s})
	}
}

// Five keys that all peel what they get are still too many.
func TestFiveKeysThatPeelAreTooMany(t *testing.T) {
	s := onionThere(trail{[]int{7, 77, 777, 7777}, []int{1, 2, 3, 4}}, "hello")
	rest := s
	for _, key := range []int{7, 77, 777, 7777} {
		p, _ := peeledThere(key, rest)
		rest = p.Rest
	}
	found := 0
	for key := range mostBlock + 1 {
		if _, ok := peeledThere(key, rest); ok {
			found++
			isRefusedLayer(t, layerCall{name: "WalkOnion", keys: []int{7, 77, 777, 7777, key}, s: s})
		}
	}
	if found == 0 {
		t.Error("no key peels the rest")
	}
}

// anyLayerCalls are calls of each function, good ones and others.
func anyLayerCalls() []layerCall {
	var out []layerCall
	for _, w := range someTrails() {
		for _, body := range append(someBodies()[:40], "fifteen letters", "sixteen letters!") {
			out = append(out, layerCall{name: "BuildOnion", keys: w.keys, hops: w.hops, s: body})
		}
		s := onionThere(w, "hello")
		for many := range len(w.keys) + 1 {
			out = append(out, layerCall{name: "WalkOnion", keys: w.keys[:many], s: s}, layerCall{name: "WalkOnion", keys: w.keys[:many], s: s[1:]})
			out = append(out, layerCall{name: "BuildOnion", keys: w.keys[:many], hops: w.hops, s: "hello"}, layerCall{name: "BuildOnion", keys: w.keys, hops: w.hops[:many], s: "hello"})
		}
		out = append(out, layerCall{name: "PeelOnion", n: w.keys[0], s: s}, layerCall{name: "PeelOnion", n: w.keys[0], s: s[1:]}, layerCall{name: "WalkOnion", keys: w.hops, s: s})
	}
	for _, keys := range wrongAmong(7, wrongBlocks(), impl.MaxHops+2) {
		out = append(out, layerCall{name: "BuildOnion", keys: keys, hops: slices.Repeat([]int{3}, len(keys)), s: "hello"})
		out = append(out, layerCall{name: "BuildOnion", keys: slices.Repeat([]int{3}, len(keys)), hops: keys, s: "hello"})
		out = append(out, layerCall{name: "WalkOnion", keys: keys, s: onionThere(trail{[]int{7, 7}, []int{1, 2}}, "hello")})
	}
	for _, s := range slices.Concat(someBodies(), noPadded(), mixableTexts()) {
		out = append(out, layerCall{name: "PadBody", s: s}, layerCall{name: "UnpadBody", s: s}, layerCall{name: "CheckOf", s: s}, layerCall{name: "XorTexts", s: s, b: s}, layerCall{name: "XorTexts", s: s, b: "ab"})
		out = append(out, layerCall{name: "PeelOnion", n: len(s), s: s}, layerCall{name: "WalkOnion", s: s}, layerCall{name: "PadFor", n: len(s), many: len(s)})
	}
	return out
}

func TestLayersNeitherWriteNorShare(t *testing.T) {
	for _, c := range anyLayerCalls() {
		if c.isLong() {
			continue
		}
		given := c
		var keys, hops []int
		given.keys, keys = withRoom(c.keys, 7)
		given.hops, hops = withRoom(c.hops, 3)
		wereKeys, wereHops := slices.Clone(keys), slices.Clone(hops)
		wereText, wereOther := strings.Clone(c.s), strings.Clone(c.b)
		isKept := func() bool {
			return slices.Equal(keys, wereKeys) && slices.Equal(hops, wereHops) && c.s == wereText && c.b == wereOther
		}
		got := given.run()
		if !isKept() {
			t.Fatalf("%#v writes into an argument", c)
		}
		if !got.isAlike(c.run()) {
			t.Errorf("%#v hangs on what lies behind the lists", c)
		}
		if slices.Max(append(slices.Clone(got.hops[len(got.hops):cap(got.hops)]), 0)) != 0 {
			t.Errorf("%#v hands out what lies behind", c)
		}
		scribbleOver(got.hops, func(n int) int { return n + 77 })
		if !isKept() {
			t.Fatalf("%#v shares memory with an argument", c)
		}
		if !given.run().isAlike(c.run()) {
			t.Errorf("%#v is another one the second time", c)
		}
	}
}

// One list may be keys and hops.
func TestAnOnionOfOneListTwice(t *testing.T) {
	l := []int{9, 8, 7, 6}
	s, ok := impl.BuildOnion(l, l, "hello")
	if s != onionThere(trail{l, l}, "hello") || !ok || !slices.Equal(l, []int{9, 8, 7, 6}) {
		t.Errorf("%q, %v, %v", s, ok, l)
	}
	isWalked(t, l, s, walked{l, "hello", true})
}

func TestNoKeysAndNoHopsAreTheNilOnes(t *testing.T) {
	for _, c := range anyLayerCalls() {
		empty := c
		if len(c.keys) == 0 {
			empty.keys = []int{}
		}
		if len(c.hops) == 0 {
			empty.hops = []int{}
		}
		if !empty.run().isAlike(c.run()) {
			t.Errorf("%#v", c)
		}
	}
}
