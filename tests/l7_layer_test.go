package tests

import (
	"math/rand"
	"slices"
	"strings"
	"testing"

	"loop.example/g00549/impl"
)

func isWalked(t *testing.T, keys []int, s string, want walked) {
	t.Helper()
	var got walked
	got.hops, got.body, got.ok = impl.WalkOnion(keys, s)
	if !got.isAlike(want) {
		t.Fatalf("WalkOnion(%v, %q): %#v, not %#v", keys, s, got, want)
	}
}

func isPeeled(t *testing.T, key int, s string, want impl.Peeled, is bool) {
	t.Helper()
	if got, ok := impl.PeelOnion(key, s); got != want || ok != is {
		t.Fatalf("PeelOnion(%d, %q): %#v, %v, not %#v, %v", key, s, got, ok, want, is)
	}
}

func isUnpadded(t *testing.T, s string, want string) {
	t.Helper()
	if got, ok := impl.UnpadBody(s); got != want || !ok {
		t.Fatalf("UnpadBody(%q): %q, %v, not %q", s, got, ok, want)
	}
}

func isChecked(t *testing.T, s string, want int) {
	t.Helper()
	if got, ok := impl.CheckOf(s); got != want || !ok {
		t.Fatalf("CheckOf(%q): %d, %v, not %d", s, got, ok, want)
	}
}

func isUnlike(t *testing.T, a string, b string, want string) {
	t.Helper()
	if got, ok := impl.XorTexts(a, b); got != want || !ok {
		t.Fatalf("XorTexts(%q, %q): %q, %v, not %q", a, b, got, ok, want)
	}
}

func builtOf(t *testing.T, w trail, body string) string {
	t.Helper()
	s, ok := impl.BuildOnion(w.keys, w.hops, body)
	if len(s) != impl.OnionLong || !ok {
		t.Fatalf("BuildOnion(%v, %v, %q): %q, %v", w.keys, w.hops, body, s, ok)
	}
	return s
}

func TestLayerLimits(t *testing.T) {
	if impl.MaxHops != 4 || impl.BodyLong != 16 || impl.OnionLong != 24 {
		t.Error(impl.MaxHops, impl.BodyLong, impl.OnionLong)
	}
}

func TestPadsByHand(t *testing.T) {
	// key 0: halves 0 0, then 0 29, 29 102, 102 220
	if pad, ok := impl.PadFor(0, 2); pad != "\x66\xdc" || !ok {
		t.Errorf("%q, %v", pad, ok)
	}
	for _, key := range []int{0, 1, 255, 256, mostBlock} {
		if pad, ok := impl.PadFor(key, 0); pad != "" || !ok {
			t.Errorf("PadFor(%d, 0): %q, %v", key, pad, ok)
		}
	}
}

func TestPadsAreMixedNoughts(t *testing.T) {
	for _, key := range someBlocks() {
		for many := 0; many <= mostLayered; many += 2 {
			pad, ok := impl.PadFor(key, many)
			if pad != padThere(key, many) || !ok {
				t.Fatalf("PadFor(%d, %d): %q, %v", key, many, pad, ok)
			}
			if mixed, ok := impl.MixText([]int{key, key, key}, key, strings.Repeat("\x00", many)); pad != mixed || !ok {
				t.Fatalf("PadFor(%d, %d): %q, not %q", key, many, pad, mixed)
			}
		}
	}
}

func TestEachKeyHasItsPad(t *testing.T) {
	for key := range mostBlock + 1 {
		for _, many := range []int{0, 2, 24, 40} {
			if pad, ok := impl.PadFor(key, many); pad != padThere(key, many) || !ok {
				t.Fatalf("PadFor(%d, %d): %q, %v", key, many, pad, ok)
			}
		}
	}
}

func TestXorTextsByHand(t *testing.T) {
	isUnlike(t, "", "", "")
	isUnlike(t, "ab", "ab", "\x00\x00")
	isUnlike(t, "ab", "  ", "AB")
	isUnlike(t, "\xff\x00\x80", "\x0f\xf0\x80", "\xf0\xf0\x00")
	isUnlike(t, "a", "\x00", "a")
	isUnlike(t, strings.Repeat("\xff", mostLayered), strings.Repeat("\x01", mostLayered), strings.Repeat("\xfe", mostLayered))
}

func TestXorTextsOfEachLength(t *testing.T) {
	r := rand.New(rand.NewSource(771))
	for long := range mostLayered + 1 {
		for range 20 {
			a, b := randomText(r, long), randomText(r, long)
			isUnlike(t, a, a, strings.Repeat("\x00", long))
			isUnlike(t, a, strings.Repeat("\x00", long), a)
			isUnlike(t, a, b, xorThere(a, b))
			once, _ := impl.XorTexts(a, b)
			isUnlike(t, b, a, once)
			isUnlike(t, once, b, a)
			isUnlike(t, once, a, b)
		}
	}
}

func TestXorTextsOfEachTwoBytes(t *testing.T) {
	for a := range 256 {
		for b := range 256 {
			isUnlike(t, string([]byte{byte(a)}), string([]byte{byte(b)}), string([]byte{byte(a ^ b)}))
		}
	}
}

func TestChecksByHand(t *testing.T) {
	isChecked(t, "", 0)
	isChecked(t, "\x00", 0)
	isChecked(t, "\x01", 1)
	isChecked(t, "\x01\x02", 5)
	isChecked(t, "\x02\x01", 4)
	isChecked(t, "\x00\x00\x01", 3)
	isChecked(t, "\xfa", 250)
	isChecked(t, "\xfb", 0)
	isChecked(t, "\xff", 4)
	isChecked(t, "\x00\x7d", 250)
	isChecked(t, "\x00\x7e", 1)
	isChecked(t, strings.Repeat("\x00", mostLayered), 0)
	isChecked(t, strings.Repeat("\x01", mostLayered), 67)    // 820
	isChecked(t, strings.Repeat("\xff", mostLayered), 17)    // 209100
	isChecked(t, strings.Repeat("\x00", 39)+"\xff", 160)     // 10200
	isChecked(t, "\x80"+strings.Repeat("\x00", 15), 128)     // a padded body of nothing
	isChecked(t, "\x00\x00\x00\x00\x00\x00\x00\x80\x01", 29) // 1024 and 9
}

func TestChecksOfEachLength(t *testing.T) {
	r := rand.New(rand.NewSource(772))
	for long := range mostLayered + 1 {
		for range 50 {
			s := randomText(r, long)
			isChecked(t, s, checkThere(s))
		}
		isChecked(t, strings.Repeat("\xff", long), checkThere(strings.Repeat("\xff", long)))
	}
	for b := range 256 {
		for at := range mostLayered {
			isChecked(t, strings.Repeat("\x00", at)+string([]byte{byte(b)}), b*(at+1)%251)
		}
	}
}

func TestBodiesComeBackFromTheirPads(t *testing.T) {
	for _, body := range someBodies() {
		padded, ok := impl.PadBody(body)
		if padded != paddedThere(body) || len(padded) != impl.BodyLong || !ok {
			t.Fatalf("PadBody(%q): %q, %v", body, padded, ok)
		}
		isUnpadded(t, padded, body)
	}
}

func TestPaddedBodiesByHand(t *testing.T) {
	isUnpadded(t, "\x80"+strings.Repeat("\x00", 15), "")
	isUnpadded(t, strings.Repeat("\x00", 15)+"\x80", strings.Repeat("\x00", 15))
	isUnpadded(t, strings.Repeat("\x80", 16), strings.Repeat("\x80", 15))
	isUnpadded(t, strings.Repeat("\x80", 15)+"\x00", strings.Repeat("\x80", 14))
	isUnpadded(t, "hello\x80\x00\x80"+strings.Repeat("\x00", 8), "hello\x80\x00")
	isUnpadded(t, "fifteen letters\x80", "fifteen letters")
}

// Of all texts of these few bytes just those are padded that some body makes.
func TestWhichTextsArePadded(t *testing.T) {
	r := rand.New(rand.NewSource(773))
	padded := 0
	for n := range 20000 {
		bytes := make([]byte, impl.BodyLong)
		for i := n % impl.BodyLong; i < impl.BodyLong; i++ {
			bytes[i] = []byte{0, 0, 0, 128, 128, 1, 127, 129, 255}[r.Intn(9)]
		}
		s := string(bytes)
		want, is := unpaddedThere(s)
		got, ok := impl.UnpadBody(s)
		if got != want || ok != is {
			t.Fatalf("UnpadBody(%q): %q, %v, not %q, %v", s, got, ok, want, is)
		}
		if ok {
			padded++
			if again, is := impl.PadBody(got); again != s || !is {
				t.Fatalf("PadBody(%q): %q, %v, not %q", got, again, is, s)
			}
		}
	}
	if padded == 0 || padded == 20000 {
		t.Error(padded)
	}
}

func TestOnionsByHand(t *testing.T) {
	// the head is 1 and 128, the pad of key 0 begins with 0x66 0xdc
	s := builtOf(t, trail{[]int{0}, []int{1}}, "")
	if s[:2] != "\x67\x5c" {
		t.Errorf("%q", s)
	}
	isUnlike(t, s, padThere(0, 24), "\x01\x80\x80"+strings.Repeat("\x00", 21))
	isPeeled(t, 0, s, impl.Peeled{Next: 1, Rest: "\x80" + strings.Repeat("\x00", 23)}, true)
	s = builtOf(t, trail{[]int{mostBlock}, []int{mostHop}}, "\x01\x02")
	// 1, twice 2 and thrice 128 are 389
	isUnlike(t, s, padThere(mostBlock, 24), "\xfa\x8a\x01\x02\x80"+strings.Repeat("\x00", 19))
	isPeeled(t, mostBlock, s, impl.Peeled{Next: mostHop, Rest: "\x01\x02\x80" + strings.Repeat("\x00", 21), Body: "\x01\x02"}, true)
}

func TestOnionsAreBuiltAsSaid(t *testing.T) {
	for _, w := range someTrails() {
		for _, body := range someBodies() {
			if s := builtOf(t, w, body); s != onionThere(w, body) {
				t.Fatalf("BuildOnion(%v, %v, %q): %q, not %q", w.keys, w.hops, body, s, onionThere(w, body))
			}
		}
	}
}

func TestTheWholeWayTellsAllHopsAndTheBody(t *testing.T) {
	for _, w := range someTrails() {
		for _, body := range someBodies() {
			isWalked(t, w.keys, builtOf(t, w, body), walked{w.hops, body, true})
		}
	}
}

func TestEachHandLearnsTheNextOneAlone(t *testing.T) {
	for _, w := range someTrails() {
		for _, body := range someBodies() {
			s := builtOf(t, w, body)
			for i, key := range w.keys {
				p, ok := impl.PeelOnion(key, s)
				if !ok || p.Next != w.hops[i] || len(p.Rest) != impl.OnionLong {
					t.Fatalf("hand %d of %#v, %q: %#v, %v", i, w, body, p, ok)
				}
				if i == len(w.keys)-1 && p.Body != body {
					t.Fatalf("%#v, %q: %#v", w, body, p)
				}
				want, _ := peeledThere(key, s)
				isPeeled(t, key, s, want, true)
				s = p.Rest
			}
		}
	}
}

// What a hand gives on begins as an onion that was made for those behind it
// alone: nothing tells how many were ahead.
func TestTheRestIsAnOnionForThoseBehind(t *testing.T) {
	for _, w := range someTrails() {
		for _, body := range []string{"", "hello", "\x80\x00", strings.Repeat("\x00", 15), "fifteen letters"} {
			s := builtOf(t, w, body)
			for i := 1; i < len(w.keys); i++ {
				p, _ := impl.PeelOnion(w.keys[i-1], s)
				s = p.Rest
				behind := builtOf(t, trail{w.keys[i:], w.hops[i:]}, body)
				kept := impl.OnionLong - 2*i
				if len(s) != impl.OnionLong || s[:kept] != behind[:kept] || s[impl.OnionLong-2:] != "\x00\x00" {
					t.Fatalf("behind hand %d of %#v: %q, not %q", i-1, w, s, behind)
				}
				isWalked(t, w.keys[i:], s, walked{w.hops[i:], body, true})
				isWalked(t, w.keys[i:], behind, walked{w.hops[i:], body, true})
			}
		}
	}
}

// Two bodies by one way never make one onion: nothing of a body is lost.
func TestOtherBodiesAreOtherOnions(t *testing.T) {
	for _, w := range someTrails() {
		seen := map[string]string{}
		for _, body := range someBodies() {
			s := builtOf(t, w, body)
			if other, is := seen[s]; is && other != body {
				t.Fatalf("%#v: %q and %q have one onion", w, body, other)
			}
			seen[s] = body
		}
	}
}

func TestEachHop(t *testing.T) {
	for hop := 1; hop <= mostHop; hop++ {
		for many := 1; many <= impl.MaxHops; many++ {
			for at := range many {
				w := trail{[]int{7, 77, 777, 7777}[:many], slices.Repeat([]int{3}, many)}
				w.hops[at] = hop
				isWalked(t, w.keys, builtOf(t, w, "to whom"), walked{w.hops, "to whom", true})
			}
		}
	}
}

func TestEachKeyPeelsItsOnion(t *testing.T) {
	for key := range mostBlock + 1 {
		w := trail{[]int{key}, []int{1 + key%mostHop}}
		isWalked(t, w.keys, builtOf(t, w, "one hand"), walked{w.hops, "one hand", true})
	}
}

// Another key is told false by the hop or the check, but for one in some 256:
// these tell what the document's words make of it.
func TestAnotherKey(t *testing.T) {
	for _, w := range []trail{{[]int{11, 222, 3333}, []int{1, 1, 5}}, {[]int{0}, []int{mostHop}}} {
		s := builtOf(t, w, "hello")
		told := 0
		for key := range mostBlock + 1 {
			want, is := peeledThere(key, s)
			isPeeled(t, key, s, want, is)
			if is {
				told++
			}
		}
		if told == 0 || told > mostBlock/100 {
			t.Errorf("%d keys peel %q", told, s)
		}
	}
	for _, w := range someTrails() {
		s := builtOf(t, w, "hello")
		for _, key := range someBlocks() {
			for at := range w.keys {
				keys := slices.Clone(w.keys)
				keys[at] = key
				isWalked(t, keys, s, walkedThere(keys, s))
			}
		}
	}
}

func TestOneBitTurned(t *testing.T) {
	for _, w := range someTrails() {
		for _, body := range []string{"", "hello", "\x80\x00\x80", "fifteen letters"} {
			s := builtOf(t, w, body)
			whole, _ := impl.PeelOnion(w.keys[0], s)
			for bit := range 8 * impl.OnionLong {
				turned := turnedAt(s, bit)
				want, is := peeledThere(w.keys[0], turned)
				isPeeled(t, w.keys[0], turned, want, is)
				isWalked(t, w.keys, turned, walkedThere(w.keys, turned))
				got, ok := impl.PeelOnion(w.keys[0], turned)
				switch at := bit / 8; {
				case at == 0 && ok && got.Next == whole.Next:
					t.Fatalf("bit %d of %q: the hop is as it was", bit, s)
				case at > 0 && at < 18 && ok:
					t.Fatalf("bit %d of %q: the check does not tell", bit, s)
				case at >= 18 && (!ok || got.Next != whole.Next || got.Body != whole.Body || got.Rest != turnedAt(whole.Rest, bit-16)):
					t.Fatalf("bit %d of %q: %#v, %v", bit, s, got, ok)
				}
			}
		}
	}
}

func TestNextIsInItsBounds(t *testing.T) {
	rest := paddedThere("hello") + strings.Repeat("\x07", 6)
	for _, key := range []int{0, 11, mostBlock} {
		for first := range 256 {
			s := onionOfPlain(key, string([]byte{byte(first), byte(checkThere(rest[:16]))})+rest)
			if first >= 1 && first <= mostHop {
				isPeeled(t, key, s, impl.Peeled{Next: first, Rest: rest + "\x00\x00", Body: "hello"}, true)
			} else {
				isPeeled(t, key, s, impl.Peeled{}, false)
			}
		}
	}
}

// A check byte of 251 and more is none, even where it would be one modulo 251.
func TestTheCheckIsJustThat(t *testing.T) {
	for _, body := range []string{"", "hello", "\x7b\x80", "\xfb"} {
		rest := paddedThere(body) + "behind"
		for second := range 256 {
			s := onionOfPlain(513, string([]byte{9, byte(second)})+rest)
			if second == checkThere(rest[:16]) {
				isPeeled(t, 513, s, impl.Peeled{Next: 9, Rest: rest + "\x00\x00", Body: body}, true)
			} else {
				isPeeled(t, 513, s, impl.Peeled{}, false)
			}
		}
	}
	rest := strings.Repeat("\x00", 22)
	isPeeled(t, 513, onionOfPlain(513, "\x09\x00"+rest), impl.Peeled{Next: 9, Rest: rest + "\x00\x00"}, true)
	isPeeled(t, 513, onionOfPlain(513, "\x09\xfb"+rest), impl.Peeled{}, false)
}

func TestARestWithoutABody(t *testing.T) {
	r := rand.New(rand.NewSource(774))
	for range 2000 {
		rest, key := randomText(r, 22), r.Intn(mostBlock+1)
		body, _ := unpaddedThere(rest[:16])
		s := onionOfPlain(key, string([]byte{4, byte(checkThere(rest[:16]))})+rest)
		isPeeled(t, key, s, impl.Peeled{Next: 4, Rest: rest + "\x00\x00", Body: body}, true)
	}
	for _, padded := range noPadded() {
		if len(padded) == impl.BodyLong {
			s := onionOfPlain(77, string([]byte{4, byte(checkThere(padded))})+padded+"\x80\x00\x00\x00\x00\x00")
			isPeeled(t, 77, s, impl.Peeled{Next: 4, Rest: padded + "\x80\x00\x00\x00\x00\x00\x00\x00"}, true)
		}
	}
}

func TestAWayOfNoKeys(t *testing.T) {
	for _, w := range someTrails() {
		isWalked(t, nil, builtOf(t, w, "hello"), walked{ok: true})
		isWalked(t, []int{}, builtOf(t, w, "hello"), walked{ok: true})
	}
	// with no key nothing is peeled, so nothing tells false
	isWalked(t, nil, "no onion", walked{ok: true})
	isWalked(t, nil, "", walked{ok: true})
}

func TestAWayOfFewerKeysThanHands(t *testing.T) {
	for _, w := range someTrails() {
		for _, body := range someBodies() {
			s := builtOf(t, w, body)
			for many := range len(w.keys) {
				want := walkedThere(w.keys[:many], s)
				isWalked(t, w.keys[:many], s, want)
				if !want.ok || !slices.Equal(want.hops, w.hops[:many]) {
					t.Fatalf("%#v, %q: %#v", w, body, want)
				}
			}
		}
	}
}

// More keys than hands: the last hand's rest is mostly no onion.
func TestAWayOfMoreKeysThanHands(t *testing.T) {
	told, refused := 0, 0
	for _, w := range someTrails() {
		if len(w.keys) == impl.MaxHops {
			continue
		}
		s := builtOf(t, w, "hello")
		for key := range 1000 {
			keys := append(slices.Clone(w.keys), key)
			want := walkedThere(keys, s)
			isWalked(t, keys, s, want)
			if want.ok {
				told++
			} else {
				refused++
			}
		}
	}
	if told == 0 || refused < 100*told {
		t.Error(told, refused)
	}
}

// A body that a hand ahead of the last one finds is not told.
func TestOnlyTheLastBodyIsTold(t *testing.T) {
	s := builtOf(t, trail{[]int{11}, []int{5}}, "hello")
	found := 0
	for key := range mostBlock + 1 {
		want := walkedThere([]int{11, key}, s)
		if want.ok && want.body == "" {
			found++
			isWalked(t, []int{11, key}, s, want)
		}
	}
	if found == 0 {
		t.Error("no key peels the rest")
	}
}
