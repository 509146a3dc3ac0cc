package tests

import (
	"math"
	"slices"
	"testing"

	"loop.example/g00549/impl"
)

// parted is what a function of chapter 5 tells, whichever it is.
type parted struct {
	n     int
	nums  []int
	part  impl.Part
	parts []impl.Part
	ok    bool
}

// partsCall is one call of a function of chapter 5.
type partsCall struct {
	name string
	nums []int
	a    []impl.Part
	b    []impl.Part
	n    int
}

func (c partsCall) run() parted {
	var out parted
	switch c.name {
	case "ValueAt":
		out.n, out.ok = impl.ValueAt(c.nums, c.n)
	case "SplitSecret":
		out.parts, out.ok = impl.SplitSecret(c.nums, c.n)
	case "JoinParts":
		out.n, out.ok = impl.JoinParts(c.a)
	case "ThroughParts":
		out.n, out.ok = impl.ThroughParts(c.a, c.n)
	case "PolyThrough":
		out.nums, out.ok = impl.PolyThrough(c.a)
	case "AddParts":
		out.parts, out.ok = impl.AddParts(c.a, c.b)
	case "WeightsOf":
		out.nums, out.ok = impl.WeightsOf(c.nums)
	case "SecretFits":
		out.part, out.ok = impl.SecretFits(c.a, c.n)
	}
	return out
}

func (x parted) isAlike(y parted) bool {
	return x.n == y.n && slices.Equal(x.nums, y.nums) && x.part == y.part && slices.Equal(x.parts, y.parts) && x.ok == y.ok
}

func isRefusedParts(t *testing.T, c partsCall) {
	t.Helper()
	if got := c.run(); !got.isAlike(parted{}) {
		if len(c.nums) > 20 || len(c.a) > 20 {
			c = partsCall{name: c.name + " of very many", n: c.n}
		}
		t.Errorf("%+v: %+v", c, got)
	}
}

func wrongManyParts() []int {
	return []int{math.MinInt, math.MinInt + 1, -impl.MaxParts, -1, 0, impl.MaxParts + 1, 16, 1 << 32, math.MaxInt - 1, math.MaxInt}
}

func TestWrongPolynomialsGetTheZeroAnswer(t *testing.T) {
	for _, poly := range wrongPolys() {
		for _, n := range []int{math.MinInt, -1, 0, 1, 2, impl.MaxParts, impl.MaxParts + 1, greatestSmall, impl.SmallPrime, math.MaxInt} {
			isRefusedParts(t, partsCall{name: "ValueAt", nums: poly, n: n})
			isRefusedParts(t, partsCall{name: "SplitSecret", nums: poly, n: n})
		}
	}
}

func TestWrongPlacesGetTheZeroAnswer(t *testing.T) {
	for _, xs := range wrongPlaces() {
		isRefusedParts(t, partsCall{name: "WeightsOf", nums: xs})
	}
	for _, poly := range somePolys() {
		for _, x := range wrongSmalls() {
			isRefusedParts(t, partsCall{name: "ValueAt", nums: poly, n: x})
		}
	}
	for _, l := range someParts() {
		for _, x := range wrongSmalls() {
			isRefusedParts(t, partsCall{name: "ThroughParts", a: l, n: x})
		}
	}
}

func TestWrongManyPartsGetTheZeroAnswer(t *testing.T) {
	for _, poly := range somePolys() {
		for _, many := range wrongManyParts() {
			isRefusedParts(t, partsCall{name: "SplitSecret", nums: poly, n: many})
		}
	}
}

func TestWrongPartsGetTheZeroAnswer(t *testing.T) {
	for _, l := range wrongParts() {
		isRefusedParts(t, partsCall{name: "JoinParts", a: l})
		isRefusedParts(t, partsCall{name: "PolyThrough", a: l})
		for _, n := range []int{-1, 0, 1, 9, greatestSmall, impl.SmallPrime} {
			isRefusedParts(t, partsCall{name: "ThroughParts", a: l, n: n})
			isRefusedParts(t, partsCall{name: "SecretFits", a: l, n: n})
		}
		good := partsThere([]int{5, 6}, []int{9, 1, 8, 2, 7, 3, 6, 4}[:min(len(l), impl.MaxParts)])
		isRefusedParts(t, partsCall{name: "AddParts", a: l, b: l})
		isRefusedParts(t, partsCall{name: "AddParts", a: l, b: good})
		isRefusedParts(t, partsCall{name: "AddParts", a: good, b: l})
	}
}

func TestWrongSecretsDoNotFit(t *testing.T) {
	for _, l := range someParts() {
		for _, secret := range wrongSmalls() {
			isRefusedParts(t, partsCall{name: "SecretFits", a: l, n: secret})
		}
	}
}

func TestNoSecretFitsToAllParts(t *testing.T) {
	for _, l := range someParts() {
		if len(l) < impl.MaxParts {
			continue
		}
		for _, secret := range []int{0, 1, 750, greatestSmall} {
			isRefusedParts(t, partsCall{name: "SecretFits", a: l, n: secret})
		}
	}
}

func TestPartsThatAreNotAsMany(t *testing.T) {
	all := splitOf(t, []int{3, 1, 4}, impl.MaxParts)
	for a := range impl.MaxParts + 1 {
		for b := range impl.MaxParts + 1 {
			if a != b {
				isRefusedParts(t, partsCall{name: "AddParts", a: all[:a], b: all[:b]})
			}
		}
	}
	isRefusedParts(t, partsCall{name: "AddParts"})
}

func TestPartsAtOtherPlacesAreNotAdded(t *testing.T) {
	for _, a := range someParts() {
		for at := range a {
			b := slices.Clone(a)
			b[at].X = 1200 + at
			isRefusedParts(t, partsCall{name: "AddParts", a: a, b: b})
			isRefusedParts(t, partsCall{name: "AddParts", a: b, b: a})
			for other := range at {
				b = slices.Clone(a)
				b[at], b[other] = b[other], b[at]
				isRefusedParts(t, partsCall{name: "AddParts", a: a, b: b})
			}
		}
	}
}

// ofParts are calls with parts of each function that takes them.
func ofParts(a []impl.Part, b []impl.Part, n int) []partsCall {
	return []partsCall{
		{name: "JoinParts", a: a},
		{name: "ThroughParts", a: a, n: n},
		{name: "PolyThrough", a: a},
		{name: "AddParts", a: a, b: b},
		{name: "SecretFits", a: a, n: n},
	}
}

func anyPartsCalls() []partsCall {
	var out []partsCall
	for _, nums := range slices.Concat(somePolys(), wrongPolys()[:40], somePlaces(), wrongPlaces()[:80]) {
		for _, n := range []int{-1, 0, 1, 5, impl.MaxParts, impl.MaxParts + 1, greatestSmall, impl.SmallPrime} {
			out = append(out, partsCall{name: "ValueAt", nums: nums, n: n}, partsCall{name: "SplitSecret", nums: nums, n: n})
		}
		out = append(out, partsCall{name: "WeightsOf", nums: nums})
	}
	lists := append(someParts(), wrongParts()[:160]...)
	for i, l := range lists {
		for _, n := range []int{-1, 0, 1, 5, greatestSmall, impl.SmallPrime} {
			out = append(out, ofParts(l, l, n)...)
			out = append(out, ofParts(l, lists[(i+1)%len(lists)], n)...)
		}
	}
	return out
}

func TestPartsAreNeitherWrittenNorShared(t *testing.T) {
	behind := impl.Part{X: 7, Y: 7}
	for _, c := range anyPartsCalls() {
		if len(c.nums) > 20 || len(c.a) > 20 {
			continue
		}
		given := c
		var nums []int
		var a, b []impl.Part
		given.nums, nums = withRoom(c.nums, 7)
		given.a, a = withRoom(c.a, behind)
		given.b, b = withRoom(c.b, behind)
		wereNums, wereA, wereB := slices.Clone(nums), slices.Clone(a), slices.Clone(b)
		isKept := func() bool {
			return slices.Equal(nums, wereNums) && slices.Equal(a, wereA) && slices.Equal(b, wereB)
		}
		got := given.run()
		if !isKept() {
			t.Fatalf("%+v writes into an argument", c)
		}
		if !got.isAlike(c.run()) {
			t.Errorf("%+v hangs on what lies behind the lists", c)
		}
		if slices.Contains(got.nums[len(got.nums):cap(got.nums)], 7) || slices.Contains(got.parts[len(got.parts):cap(got.parts)], behind) {
			t.Errorf("%+v hands out what lies behind", c)
		}
		scribbleOver(got.nums, func(n int) int { return n + 77 })
		scribbleOver(got.parts, func(p impl.Part) impl.Part { return impl.Part{X: p.X + 77, Y: p.Y + 77} })
		if !isKept() {
			t.Fatalf("%+v shares memory with an argument", c)
		}
		if !given.run().isAlike(c.run()) {
			t.Errorf("%+v is another one the second time", c)
		}
	}
}

// One list may be both arguments of AddParts; its memory stays its own.
func TestPartsAddedToThemselves(t *testing.T) {
	for _, l := range someParts() {
		was := slices.Clone(l)
		got, ok := impl.AddParts(l, l)
		if !ok || len(got) != len(l) || !slices.Equal(l, was) {
			t.Fatalf("AddParts(%v, the same): %v, %v", was, got, ok)
		}
		for i, p := range was {
			if got[i] != (impl.Part{X: p.X, Y: 2 * p.Y % impl.SmallPrime}) {
				t.Errorf("AddParts(%v, the same): %v", was, got)
			}
		}
	}
}

func TestNoPartsAndNoNumbersAreTheNilOnes(t *testing.T) {
	for _, name := range []string{"ValueAt", "SplitSecret", "JoinParts", "ThroughParts", "PolyThrough", "AddParts", "WeightsOf", "SecretFits"} {
		for _, n := range []int{0, 1, impl.MaxParts} {
			isRefusedParts(t, partsCall{name: name, n: n})
			isRefusedParts(t, partsCall{name: name, nums: []int{}, a: []impl.Part{}, b: []impl.Part{}, n: n})
		}
	}
}
