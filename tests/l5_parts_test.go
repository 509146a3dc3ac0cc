package tests

import (
	"math/rand"
	"slices"
	"testing"

	"loop.example/g00549/impl"
)

func isValue(t *testing.T, poly []int, x int, want int) {
	t.Helper()
	if got, ok := impl.ValueAt(poly, x); !ok || got != want {
		t.Errorf("ValueAt(%v, %d): %d, %v, not %d", poly, x, got, ok, want)
	}
}

func isJoined(t *testing.T, l []impl.Part, want int) {
	t.Helper()
	if got, ok := impl.JoinParts(l); !ok || got != want {
		t.Errorf("JoinParts(%v): %d, %v, not %d", l, got, ok, want)
	}
}

func isThrough(t *testing.T, l []impl.Part, x int, want int) {
	t.Helper()
	if got, ok := impl.ThroughParts(l, x); !ok || got != want {
		t.Errorf("ThroughParts(%v, %d): %d, %v, not %d", l, x, got, ok, want)
	}
}

func isPolyThrough(t *testing.T, l []impl.Part, want []int) {
	t.Helper()
	if got, ok := impl.PolyThrough(l); !ok || !slices.Equal(got, want) {
		t.Errorf("PolyThrough(%v): %v, %v, not %v", l, got, ok, want)
	}
}

func splitOf(t *testing.T, poly []int, many int) []impl.Part {
	t.Helper()
	parts, ok := impl.SplitSecret(poly, many)
	if !ok || len(parts) != many {
		t.Fatalf("SplitSecret(%v, %d): %v, %v", poly, many, parts, ok)
	}
	return parts
}

func TestPartsLimits(t *testing.T) {
	if impl.MaxParts != 8 {
		t.Error(impl.MaxParts)
	}
}

func TestValuesByHand(t *testing.T) {
	for x := range impl.SmallPrime {
		isValue(t, []int{1234}, x, 1234)
		isValue(t, []int{0, 1}, x, x)
		isValue(t, []int{5, 0, 1}, x, (x*x+5)%impl.SmallPrime)
	}
	isValue(t, []int{7, 3, 2}, 10, 237)
	isValue(t, []int{1, 1, 1, 1, 1, 1, 1, 1}, 2, 255)
	isValue(t, []int{0, 0, 0, 0, 0, 0, 0, 1}, 3, 2187-impl.SmallPrime)
}

func TestValuesOfNoughtsAndOfTheGreatest(t *testing.T) {
	for many := 1; many <= impl.MaxParts; many++ {
		for _, x := range []int{0, 1, 2, 700, greatestSmall} {
			isValue(t, make([]int, many), x, 0)
		}
		// the greatest number is as much as 1 less than 0
		greatest := slices.Repeat([]int{greatestSmall}, many)
		isValue(t, greatest, 0, greatestSmall)
		isValue(t, greatest, 1, impl.SmallPrime-many)
		isValue(t, greatest, greatestSmall, many%2*greatestSmall)
	}
}

func TestValueAtEachPlace(t *testing.T) {
	for _, poly := range somePolys() {
		for x := range impl.SmallPrime {
			isValue(t, poly, x, valueThere(poly, x))
		}
		isValue(t, poly, 0, poly[0])
	}
}

func TestSplitSecret(t *testing.T) {
	for _, poly := range somePolys() {
		for many := 1; many <= impl.MaxParts; many++ {
			parts := splitOf(t, poly, many)
			if want := partsThere(poly, []int{1, 2, 3, 4, 5, 6, 7, 8}[:many]); !slices.Equal(parts, want) {
				t.Errorf("SplitSecret(%v, %d): %v, not %v", poly, many, parts, want)
			}
		}
	}
}

func TestAnySoManyPartsTellTheSecret(t *testing.T) {
	r := rand.New(rand.NewSource(1))
	for _, poly := range somePolys() {
		for many := 1; many <= impl.MaxParts; many++ {
			all := splitOf(t, poly, many)
			for mask := range 1 << many {
				parts := someOf(all, mask)
				if len(parts) < len(poly) {
					continue
				}
				isJoined(t, parts, poly[0])
				slices.Reverse(parts)
				isJoined(t, parts, poly[0])
				r.Shuffle(len(parts), func(i, j int) { parts[i], parts[j] = parts[j], parts[i] })
				isJoined(t, parts, poly[0])
			}
		}
	}
}

func TestPartsInEachOrderTellTheSecret(t *testing.T) {
	poly := []int{1400, 0, 17, 1498, 3}
	all := splitOf(t, poly, 5)
	order := risingOrder(5)
	for more := true; more; more = nextOrder(order) {
		var parts []impl.Part
		for _, at := range order {
			parts = append(parts, all[at])
		}
		isJoined(t, parts, 1400)
		isPolyThrough(t, parts, poly)
		isThrough(t, parts, 900, valueThere(poly, 900))
	}
}

func TestOnePartAloneIsTheSecret(t *testing.T) {
	for _, x := range []int{1, 2, 750, greatestSmall} {
		for y := range impl.SmallPrime {
			l := []impl.Part{{X: x, Y: y}}
			isJoined(t, l, y)
			isThrough(t, l, x, y)
			isThrough(t, l, greatestSmall, y)
			isPolyThrough(t, l, []int{y})
		}
	}
}

func TestThroughPartsAtAnyPlace(t *testing.T) {
	for _, l := range someParts() {
		poly := polyThere(l)
		for _, p := range l {
			isThrough(t, l, p.X, p.Y)
		}
		for _, x := range []int{0, 1, 2, 3, 7, 8, 9, 10, 16, 17, 748, 749, 750, 1000, greatestSmall - 8, greatestSmall - 1, greatestSmall} {
			isThrough(t, l, x, valueThere(poly, x))
		}
		isJoined(t, l, poly[0])
	}
}

func TestThroughPartsAtEachPlace(t *testing.T) {
	for _, poly := range [][]int{{3}, {1498, 0, 12}, {5, 4, 3, 2, 1, 0, 1498, 1497}} {
		parts := partsThere(poly, []int{1498, 3, 700, 1, 1000, 9, 2, 55})
		for x := range impl.SmallPrime {
			isThrough(t, parts, x, valueThere(poly, x))
		}
	}
}

func TestPolyThroughGivesBackTheNumbers(t *testing.T) {
	for _, poly := range somePolys() {
		for many := len(poly); many <= impl.MaxParts; many++ {
			noughts := make([]int, many-len(poly))
			parts := splitOf(t, poly, many)
			isPolyThrough(t, parts, append(slices.Clone(poly), noughts...))
			slices.Reverse(parts)
			isPolyThrough(t, parts, append(slices.Clone(poly), noughts...))
		}
	}
}

func TestPolyThroughAnyParts(t *testing.T) {
	for _, l := range someParts() {
		isPolyThrough(t, l, polyThere(l))
		poly, _ := impl.PolyThrough(l)
		for _, p := range l {
			isValue(t, poly, p.X, p.Y)
		}
	}
}

func TestAddedPartsTellTheSum(t *testing.T) {
	polys := somePolys()
	for i, a := range polys {
		for _, b := range polys[i:] {
			long := max(len(a), len(b))
			sum := make([]int, impl.MaxParts)
			for k := range sum {
				if k < len(a) {
					sum[k] += a[k]
				}
				if k < len(b) {
					sum[k] += b[k]
				}
				sum[k] %= impl.SmallPrime
			}
			got, ok := impl.AddParts(splitOf(t, a, long), splitOf(t, b, long))
			if !ok || !slices.Equal(got, splitOf(t, sum, long)) {
				t.Errorf("AddParts of %v and %v: %v, %v", a, b, got, ok)
			}
			isJoined(t, got, (a[0]+b[0])%impl.SmallPrime)
			isPolyThrough(t, got, sum[:long])
		}
	}
}

func TestAddPartsOfAnyPlaces(t *testing.T) {
	for _, a := range someParts() {
		var b, want []impl.Part
		for i, p := range a {
			b = append(b, impl.Part{X: p.X, Y: (1498 + 311*i) % impl.SmallPrime})
			want = append(want, impl.Part{X: p.X, Y: (p.Y + b[i].Y) % impl.SmallPrime})
		}
		if got, ok := impl.AddParts(a, b); !ok || !slices.Equal(got, want) {
			t.Errorf("AddParts(%v, %v): %v, %v, not %v", a, b, got, ok, want)
		}
		if got, ok := impl.AddParts(b, a); !ok || !slices.Equal(got, want) {
			t.Errorf("AddParts(%v, %v): %v, %v, not %v", b, a, got, ok, want)
		}
	}
}

func TestWeightsByHand(t *testing.T) {
	for _, c := range []struct{ xs, want []int }{
		{[]int{1}, []int{1}},
		{[]int{greatestSmall}, []int{1}},
		{[]int{1, 2}, []int{2, 1498}},
		{[]int{2, 1}, []int{1498, 2}},
		{[]int{1, 2, 3}, []int{3, 1496, 1}},
		{[]int{3, 1, 2}, []int{1, 3, 1496}},
		{[]int{1, 2, 3, 4}, []int{4, 1493, 4, 1498}},
		{[]int{1, greatestSmall}, []int{750, 750}},
	} {
		if got, ok := impl.WeightsOf(c.xs); !ok || !slices.Equal(got, c.want) {
			t.Errorf("WeightsOf(%v): %v, %v, not %v", c.xs, got, ok, c.want)
		}
	}
}

func TestOneNumberAloneWeighsOne(t *testing.T) {
	for x := 1; x < impl.SmallPrime; x++ {
		if got, ok := impl.WeightsOf([]int{x}); !ok || !slices.Equal(got, []int{1}) {
			t.Errorf("WeightsOf([%d]): %v, %v", x, got, ok)
		}
	}
}

func TestEachWeightIsOfAllOthers(t *testing.T) {
	for _, xs := range somePlaces() {
		var want []int
		for _, x := range xs {
			weight := 1
			for _, o := range xs {
				if o != x {
					weight = overThere(restOfSmall(weight*o), restOfSmall(o-x))
				}
			}
			want = append(want, weight)
		}
		if got, ok := impl.WeightsOf(xs); !ok || !slices.Equal(got, want) {
			t.Errorf("WeightsOf(%v): %v, %v, not %v", xs, got, ok, want)
		}
	}
}

func TestWeightsTimesPartsMakeTheSecret(t *testing.T) {
	for _, l := range someParts() {
		weights, ok := impl.WeightsOf(xsOf(l))
		if !ok || len(weights) != len(l) {
			t.Fatalf("WeightsOf(%v): %v, %v", xsOf(l), weights, ok)
		}
		sum := 0
		for i, p := range l {
			if weights[i] < 0 || weights[i] > greatestSmall {
				t.Errorf("WeightsOf(%v): %v", xsOf(l), weights)
			}
			sum += weights[i] * p.Y
		}
		isJoined(t, l, sum%impl.SmallPrime)
	}
}

// fitsThere is the secret's new part, checked in all that is said of it.
func fitsThere(t *testing.T, l []impl.Part, secret int) impl.Part {
	t.Helper()
	p, ok := impl.SecretFits(l, secret)
	if !ok || p.Y < 0 || p.Y > greatestSmall {
		t.Fatalf("SecretFits(%v, %d): %v, %v", l, secret, p, ok)
	}
	least := 1
	for slices.Contains(xsOf(l), least) {
		least++
	}
	if p.X != least {
		t.Errorf("SecretFits(%v, %d): %v, X should be %d", l, secret, p, least)
	}
	if got := polyThere(append(slices.Clone(l), p))[0]; got != secret {
		t.Errorf("SecretFits(%v, %d): %v, has %d at 0", l, secret, p, got)
	}
	isJoined(t, append(slices.Clone(l), p), secret)
	isJoined(t, append([]impl.Part{p}, l...), secret)
	return p
}

func TestWithOneFewerAnySecretFits(t *testing.T) {
	for _, l := range someParts() {
		if len(l) == impl.MaxParts {
			continue
		}
		for _, secret := range []int{0, 1, 7, 750, greatestSmall - 1, greatestSmall} {
			fitsThere(t, l, secret)
		}
	}
}

// Each of all secrets fits, and each by a part of its own: what one fewer part
// tells leaves none of them out.
func TestEachSecretFitsByItsOwnPart(t *testing.T) {
	for _, xs := range [][]int{{1}, {2}, {greatestSmall}, {3, 1}, {4, 1, 3, 2}, {8, 7, 6, 5, 4, 3, 2}, {7, 6, 5, 4, 3, 2, 1}} {
		parts := partsThere([]int{100, 200, 300, 400, 500, 600, 700, 800}, xs)
		seen := map[int]bool{}
		for secret := range impl.SmallPrime {
			p, ok := impl.SecretFits(parts, secret)
			if !ok || seen[p.Y] {
				t.Fatalf("SecretFits(%v, %d): %v, %v", parts, secret, p, ok)
			}
			seen[p.Y] = true
			isJoined(t, append(slices.Clone(parts), p), secret)
		}
	}
}

func TestTheTrueSecretFitsByTheTruePart(t *testing.T) {
	for _, poly := range somePolys() {
		all := splitOf(t, poly, len(poly))
		for at := range all {
			parts := slices.Delete(slices.Clone(all), at, at+1)
			if len(parts) == 0 {
				continue
			}
			if got, ok := impl.SecretFits(parts, poly[0]); !ok || got != all[at] {
				t.Errorf("SecretFits(%v, %d): %v, %v, not %v", parts, poly[0], got, ok, all[at])
			}
		}
	}
}

func TestTheNewPartsPlaceIsTheLeastThatIsFree(t *testing.T) {
	for _, c := range []struct {
		xs   []int
		want int
	}{
		{[]int{1}, 2}, {[]int{2}, 1}, {[]int{greatestSmall}, 1}, {[]int{1, 2}, 3}, {[]int{2, 1}, 3}, {[]int{1, 3}, 2}, {[]int{3, 1}, 2},
		{[]int{3, 2}, 1}, {[]int{5, 1, 4, 2}, 3}, {[]int{4, 3, 2, 1}, 5}, {[]int{1, 2, 3, 4, 5, 6, 7}, 8}, {[]int{7, 6, 5, 4, 3, 2, 1}, 8},
		{[]int{8, 7, 6, 5, 4, 3, 2}, 1}, {[]int{8, 7, 6, 5, 3, 2, 1}, 4}, {[]int{2, greatestSmall, 1, 1000}, 3},
	} {
		for _, secret := range []int{0, 1, 999, greatestSmall} {
			p := fitsThere(t, partsThere([]int{9, 8, 7}, c.xs), secret)
			if p.X != c.want {
				t.Errorf("SecretFits at %v: %v, X should be %d", c.xs, p, c.want)
			}
		}
	}
}
