package tests

import (
	"fmt"
	"math"
	"math/big"
	"strings"
	"testing"

	"loop.example/g00549/impl"
)

const fullDigits = "79228162514264337593543950335"

func TestGoodBig(t *testing.T) {
	for _, a := range someBigs() {
		if !impl.GoodBig(a) {
			t.Errorf("%v is good", a)
		}
	}
	for _, a := range wrongBigs() {
		if impl.GoodBig(a) {
			t.Errorf("%v is not good", a)
		}
	}
}

func TestBigOf(t *testing.T) {
	for _, n := range []int{0, 1, 9, 65535, 65536, 65537, 1<<32 - 1, 1 << 32, 1 << 48, 1<<48 - 1, math.MaxInt - 1, math.MaxInt} {
		a, ok := impl.BigOf(n)
		isThat(t, fmt.Sprint("BigOf ", n), big.NewInt(int64(n)), a, ok)
	}
	for _, n := range []int{-1, -65536, math.MinInt + 1, math.MinInt} {
		if a, ok := impl.BigOf(n); ok || !isNought(a) {
			t.Errorf("BigOf %d: %v %v", n, a, ok)
		}
	}
}

func TestSumsComeBackByDifferences(t *testing.T) {
	for _, a := range someBigs() {
		for _, b := range someBigs() {
			what := fmt.Sprint(a, " and ", b)
			sum, ok := impl.AddBig(a, b)
			isThat(t, "sum of "+what, new(big.Int).Add(natOf(a), natOf(b)), sum, ok)
			if ok {
				back, ok := impl.LessBig(sum, b)
				isThat(t, "back from the sum of "+what, natOf(a), back, ok)
			}
			less, ok := impl.LessBig(a, b)
			isThat(t, "difference of "+what, new(big.Int).Sub(natOf(a), natOf(b)), less, ok)
		}
	}
}

func TestLastCarry(t *testing.T) {
	full, _ := impl.OfDigits(fullDigits)
	one, _ := impl.BigOf(1)
	almost, ok := impl.LessBig(full, one)
	if !ok || almost.L[0] != impl.Base-2 {
		t.Fatal(almost, ok)
	}
	if a, ok := impl.AddBig(almost, one); !ok || !same(a, full) {
		t.Error("six full limbs may be met:", a, ok)
	}
	for _, a := range []impl.Big{one, almost, full} {
		if sum, ok := impl.AddBig(full, a); ok || !isNought(sum) {
			t.Error("beyond six full limbs:", sum, ok)
		}
	}
	half := impl.Big{L: []int{0, 0, 0, 0, 0, 32768}}
	if sum, ok := impl.AddBig(half, half); ok || !isNought(sum) {
		t.Error("just one bit beyond:", sum, ok)
	}
}

func TestCompareBig(t *testing.T) {
	for _, a := range someBigs() {
		for _, b := range someBigs() {
			c, ok := impl.CompareBig(a, b)
			if c != natOf(a).Cmp(natOf(b)) || !ok {
				t.Errorf("%v and %v: %d %v", a, b, c, ok)
			}
		}
	}
}

func TestTimesBig(t *testing.T) {
	for _, a := range someBigs() {
		for _, b := range someBigs() {
			product, ok := impl.TimesBig(a, b)
			isThat(t, fmt.Sprint(a, " times ", b), new(big.Int).Mul(natOf(a), natOf(b)), product, ok)
		}
	}
	up, _ := impl.BigOf(1 << 48)
	if a, ok := impl.TimesBig(up, up); ok || !isNought(a) {
		t.Error("the first product beyond:", a, ok)
	}
}

func TestQuotientsAndRestsMakeTheirNumber(t *testing.T) {
	for _, a := range someBigs() {
		for _, b := range someBigs() {
			q, r, ok := impl.DivBig(a, b)
			if isNought(b) {
				if ok || !isNought(q) || !isNought(r) {
					t.Errorf("%v by 0: %v %v %v", a, q, r, ok)
				}
				continue
			}
			often, rest := new(big.Int).QuoRem(natOf(a), natOf(b), new(big.Int))
			what := fmt.Sprint(a, " by ", b)
			isThat(t, "quotient of "+what, often, q, ok)
			isThat(t, "rest of "+what, rest, r, ok)
			product, _ := impl.TimesBig(q, b)
			if back, ok := impl.AddBig(product, r); !ok || natOf(back).Cmp(natOf(a)) != 0 {
				t.Errorf("%s: quotient and rest make %v", what, back)
			}
			if c, ok := impl.CompareBig(r, b); c != -1 || !ok {
				t.Errorf("%s: the rest %v is not less", what, r)
			}
		}
	}
}

func TestShiftBig(t *testing.T) {
	for _, a := range someBigs() {
		for by := -96; by <= 96; by++ {
			want := natOf(a)
			if by < 0 {
				want.Rsh(want, uint(-by))
			} else {
				want.Lsh(want, uint(by))
			}
			got, ok := impl.ShiftBig(a, by)
			isThat(t, fmt.Sprint(a, " by ", by), want, got, ok)
		}
		for _, by := range []int{-97, 97, 1000, -1000, math.MaxInt, math.MinInt} {
			if got, ok := impl.ShiftBig(a, by); ok || !isNought(got) {
				t.Errorf("%v by %d: %v %v", a, by, got, ok)
			}
		}
	}
}

func TestShiftsAtTheEnds(t *testing.T) {
	full, _ := impl.OfDigits(fullDigits)
	one, _ := impl.BigOf(1)
	if a, ok := impl.ShiftBig(full, -96); !ok || !isNought(a) {
		t.Error("six full limbs by -96:", a, ok)
	}
	if a, ok := impl.ShiftBig(full, -95); !ok || !same(a, one) {
		t.Error("six full limbs by -95:", a, ok)
	}
	if a, ok := impl.ShiftBig(one, 96); ok || !isNought(a) {
		t.Error("1 by 96:", a, ok)
	}
	if a, ok := impl.ShiftBig(one, 95); !ok || len(a.L) != 6 || a.L[5] != 32768 {
		t.Error("1 by 95:", a, ok)
	}
	if a, ok := impl.ShiftBig(impl.Big{}, 96); !ok || !isNought(a) {
		t.Error("0 by 96:", a, ok)
	}
}

func TestDigitsComeBack(t *testing.T) {
	for _, a := range someBigs() {
		s, ok := impl.DigitsOf(a)
		if s != natOf(a).String() || !ok {
			t.Errorf("digits of %v: %q %v", a, s, ok)
		}
		back, ok := impl.OfDigits(s)
		isThat(t, "of the digits "+s, natOf(a), back, ok)
	}
	ten := big.NewInt(10)
	for long := 0; long <= 31; long++ {
		n := new(big.Int).Exp(ten, big.NewInt(int64(long)), nil)
		a, ok := impl.OfDigits(n.String())
		isThat(t, "of the digits "+n.String(), n, a, ok)
		n.Sub(n, big.NewInt(1))
		a, ok = impl.OfDigits(n.String())
		isThat(t, "of the digits "+n.String(), n, a, ok)
	}
}

func TestDigitsThatAreRefused(t *testing.T) {
	wrong := []string{
		"", "00", "01", "007", "0" + fullDigits, strings.Repeat("0", 30),
		"79228162514264337593543950336", "99999999999999999999999999999",
		strings.Repeat("9", 30), "1" + strings.Repeat("0", 29), strings.Repeat("1", 31), strings.Repeat("1", 5000),
		"-1", "+1", "-0", " 1", "1 ", "1 2", "1a", "a", "0x1", "1_0", "1.0", "1\n", "/", ":", "1/", "1:",
		"\x00", "\xff", "1\x80", "٣", "１",
	}
	for _, s := range wrong {
		if a, ok := impl.OfDigits(s); ok || !isNought(a) {
			t.Errorf("%q: %v %v", s, a, ok)
		}
	}
	if a, ok := impl.OfDigits("0"); !ok || !isNought(a) {
		t.Error("0 has no limbs:", a, ok)
	}
	if s, ok := impl.DigitsOf(impl.Big{}); s != "0" || !ok {
		t.Error("no limbs are 0:", s, ok)
	}
}

func TestThreeProductsOfHalvesMakeTheOne(t *testing.T) {
	for _, a := range someBigs() {
		for _, b := range someBigs() {
			got, ok := impl.HalvesTimes(a, b)
			what := fmt.Sprint(a, " times ", b)
			if len(a.L) > 3 || len(b.L) > 3 {
				if ok || !isNought(got) {
					t.Errorf("%s by halves: %v %v", what, got, ok)
				}
				continue
			}
			isThat(t, what+" by halves", new(big.Int).Mul(natOf(a), natOf(b)), got, ok)
			if one, is := impl.TimesBig(a, b); !is || !same(one, got) {
				t.Errorf("%s: by halves %v, at once %v", what, got, one)
			}
		}
	}
}

// reducedWrong says what is wrong with ReduceBig of a and m, if anything.
func reducedWrong(a int, m int) string {
	x, ok := impl.BigOf(a)
	by, _ := impl.BigOf(m)
	got, is := impl.ReduceBig(x, by)
	if a >= m*impl.Base {
		if is || !isNought(got) {
			return "it is not less than m times Base"
		}
		return ""
	}
	r := int(natOf(got).Int64())
	if !ok || !is || !impl.GoodBig(got) || r >= m {
		return "it is not below m"
	}
	if r*impl.Base%m != a%m {
		return "times Base it is not the number"
	}
	return ""
}

func TestWhatIsReducedTimesBaseIsTheNumber(t *testing.T) {
	ms := []int{3, 5, 7, 9, 15, 255, 257, 1499, 2999, 21845, 32767, 32769, 65521, 65533, 65535}
	for _, m := range ms {
		top := m * impl.Base
		as := []int{0, 1, 2, m - 1, m, m + 1, 65535, 65536, 65537, top/2 - 1, top / 2, top - 65536, top - m, top - 2, top - 1, top, top + 1, top + m, 1<<33 + 1, 1 << 48}
		for k := range 200 {
			as = append(as, (k*k*7919+k*104729)%top)
		}
		for _, a := range as {
			if wrong := reducedWrong(a, m); wrong != "" {
				t.Errorf("%d reduced by %d: %s", a, m, wrong)
			}
		}
	}
}

func TestEveryOddLimbReduces(t *testing.T) {
	for m := 3; m < impl.Base; m += 2 {
		for _, a := range []int{1, m*31 + 17, m*impl.Base - 1, m * impl.Base} {
			if wrong := reducedWrong(a, m); wrong != "" {
				t.Fatalf("%d reduced by %d: %s", a, m, wrong)
			}
		}
	}
}

func TestReduceRefusesWhatIsNoOddLimb(t *testing.T) {
	ms := bigs(nil, []int{1}, []int{2}, []int{4}, []int{65534}, []int{1, 1}, []int{3, 1}, []int{0, 1}, []int{65535, 65535}, []int{1, 0, 1}, []int{5, 0, 0, 0, 0, 1})
	for _, m := range ms {
		for _, a := range someBigs() {
			if got, ok := impl.ReduceBig(a, m); ok || !isNought(got) {
				t.Errorf("%v reduced by %v: %v %v", a, m, got, ok)
			}
		}
	}
	for _, a := range bigs([]int{0, 3}, []int{1, 3}, []int{0, 4}, []int{0, 0, 1}, []int{0, 0, 0, 1}, []int{1, 0, 0, 0, 0, 1}) {
		if got, ok := impl.ReduceBig(a, impl.Big{L: []int{3}}); ok || !isNought(got) {
			t.Errorf("%v reduced by 3: %v %v", a, got, ok)
		}
	}
}
