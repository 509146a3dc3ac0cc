package impl

import "strconv"

const Limbs = 6
const Base = 65536

const limbBits = 16
const allBits = Limbs * limbBits
const maxDigits = 30

// HalvesTimes takes halfLimbs at most, so that every product has room; the
// lower part of such a number is its first lowerLimbs.
const halfLimbs = 3
const lowerLimbs = 2

const (
	isLess = iota - 1
	isAlike
	isGreater
)

type Big struct {
	L []int
}

// limbRow has a place for every limb, the noughts above the number too, so
// that two numbers are alike just where their rows are equal as arrays.
type limbRow [Limbs]int

// wideRow has room for any product of two rows.
type wideRow [2 * Limbs]int

func GoodBig(a Big) bool {
	if len(a.L) > Limbs {
		return false
	}
	for _, x := range a.L {
		if x < 0 || x >= Base {
			return false
		}
	}
	return len(a.L) == 0 || a.L[len(a.L)-1] != 0
}

func BigOf(n int) (Big, bool) {
	if n < 0 {
		return Big{}, false
	}
	var r limbRow
	for i := range r {
		r[i] = n % Base
		n = n / Base
	}
	return bigFrom(r), true
}

func AddBig(a Big, b Big) (Big, bool) {
	if !GoodBig(a) || !GoodBig(b) {
		return Big{}, false
	}
	sum, carry := addRows(rowOf(a), rowOf(b))
	if carry != 0 {
		return Big{}, false
	}
	return bigFrom(sum), true
}

func LessBig(a Big, b Big) (Big, bool) {
	if !GoodBig(a) || !GoodBig(b) {
		return Big{}, false
	}
	x, y := rowOf(a), rowOf(b)
	if compareRows(x, y) == isLess {
		return Big{}, false
	}
	return bigFrom(lessRow(x, y)), true
}

func CompareBig(a Big, b Big) (int, bool) {
	if !GoodBig(a) || !GoodBig(b) {
		return 0, false
	}
	return compareRows(rowOf(a), rowOf(b)), true
}

func TimesBig(a Big, b Big) (Big, bool) {
	if !GoodBig(a) || !GoodBig(b) {
		return Big{}, false
	}
	low, high := timesRows(rowOf(a), rowOf(b))
	if high != (limbRow{}) {
		return Big{}, false
	}
	return bigFrom(low), true
}

func DivBig(a Big, b Big) (Big, Big, bool) {
	if !GoodBig(a) || !GoodBig(b) || len(b.L) == 0 {
		return Big{}, Big{}, false
	}
	often, rest := divideRows(rowOf(a), rowOf(b))
	return bigFrom(often), bigFrom(rest), true
}

func ShiftBig(a Big, by int) (Big, bool) {
	if !GoodBig(a) || by < -allBits || by > allBits {
		return Big{}, false
	}
	r := rowOf(a)
	if by == allBits { // that power of two has no place in a row itself
		return Big{}, r == limbRow{}
	}
	if by < 0 { // up by all that is left of a row's bits: the rest stays below
		_, high := timesRows(r, powerOfTwo(allBits+by))
		return bigFrom(high), true
	}
	low, high := timesRows(r, powerOfTwo(by))
	if high != (limbRow{}) {
		return Big{}, false
	}
	return bigFrom(low), true
}

func DigitsOf(a Big) (string, bool) {
	if !GoodBig(a) {
		return "", false
	}
	r, digit := divideByOne(rowOf(a), 10)
	digits := strconv.Itoa(digit)
	for r != (limbRow{}) {
		r, digit = divideByOne(r, 10)
		digits = strconv.Itoa(digit) + digits
	}
	return digits, true
}

func OfDigits(s string) (Big, bool) {
	if len(s) < 1 || len(s) > maxDigits || len(s) > 1 && s[0] == '0' {
		return Big{}, false
	}
	var r limbRow
	for i := range len(s) {
		if s[i] < '0' || s[i] > '9' {
			return Big{}, false
		}
		carry := 0
		r, carry = timesOneAnd(r, 10, int(s[i]-'0'))
		if carry != 0 {
			return Big{}, false
		}
	}
	return bigFrom(r), true
}

func HalvesTimes(a Big, b Big) (Big, bool) {
	if !GoodBig(a) || !GoodBig(b) || len(a.L) > halfLimbs || len(b.L) > halfLimbs {
		return Big{}, false
	}
	lowerA, upperA := cutRow(rowOf(a))
	lowerB, upperB := cutRow(rowOf(b))
	lower, _ := timesRows(lowerA, lowerB)
	upper, _ := timesRows(upperA, upperB)
	bothA, _ := addRows(lowerA, upperA)
	bothB, _ := addRows(lowerB, upperB)
	all, _ := timesRows(bothA, bothB)
	middle := lessRow(lessRow(all, lower), upper)
	product, _ := addRows(lower, limbsUp(middle, lowerLimbs))
	product, _ = addRows(product, limbsUp(upper, 2*lowerLimbs))
	return bigFrom(product), true
}

func ReduceBig(a Big, m Big) (Big, bool) {
	if !GoodBig(a) || !GoodBig(m) || len(m.L) != 1 {
		return Big{}, false
	}
	by := m.L[0]
	r := rowOf(a)
	if by%2 == 0 || by == 1 || compareRows(r, limbRow{0, by}) != isLess {
		return Big{}, false
	}
	q := r[0] * inverseInBase(by) % Base
	reduced := (r[0] + r[1]*Base - q*by) / Base
	if reduced < 0 { // it is above -m, as q is below Base
		reduced += by
	}
	return BigOf(reduced)
}

func rowOf(a Big) limbRow {
	var r limbRow
	for i, x := range a.L {
		r[i] = x
	}
	return r
}

func bigFrom(r limbRow) Big {
	many := Limbs
	for many > 0 && r[many-1] == 0 {
		many--
	}
	if many == 0 {
		return Big{}
	}
	l := make([]int, many)
	for i := range l {
		l[i] = r[i]
	}
	return Big{L: l}
}

func addRows(a limbRow, b limbRow) (limbRow, int) {
	carry := 0
	for i := range a {
		sum := a[i] + b[i] + carry
		a[i] = sum % Base
		carry = sum / Base
	}
	return a, carry
}

// lessRow is for a b that is at most a: there is no borrow left in the end.
func lessRow(a limbRow, b limbRow) limbRow {
	borrow := 0
	for i := range a {
		left := a[i] - b[i] - borrow
		borrow = 0
		if left < 0 {
			left += Base
			borrow = 1
		}
		a[i] = left
	}
	return a
}

func compareRows(a limbRow, b limbRow) int {
	if a == b {
		return isAlike
	}
	i := Limbs - 1
	for a[i] == b[i] {
		i--
	}
	if a[i] < b[i] {
		return isLess
	}
	return isGreater
}

func timesRows(a limbRow, b limbRow) (limbRow, limbRow) {
	var w wideRow
	for i, x := range a {
		carry := 0
		for k, y := range b {
			sum := w[i+k] + x*y + carry
			w[i+k] = sum % Base
			carry = sum / Base
		}
		w[i+Limbs] = carry
	}
	return splitWide(w)
}

func splitWide(w wideRow) (limbRow, limbRow) {
	var low, high limbRow
	for i := range low {
		low[i] = w[i]
		high[i] = w[i+Limbs]
	}
	return low, high
}

// divideRows goes bit by bit. The rest is never above what was read of a so
// far, so twice the rest has room in a row even where b is almost full.
func divideRows(a limbRow, b limbRow) (limbRow, limbRow) {
	var often, rest limbRow
	for i := allBits - 1; i >= 0; i-- {
		limb, bit := i/limbBits, i%limbBits
		rest, _ = addRows(rest, rest)
		rest[0] += a[limb] >> bit & 1
		if compareRows(rest, b) != isLess {
			rest = lessRow(rest, b)
			often[limb] += 1 << bit
		}
	}
	return often, rest
}

func divideByOne(a limbRow, by int) (limbRow, int) {
	rest := 0
	for i := Limbs - 1; i >= 0; i-- {
		rest = rest*Base + a[i]
		a[i] = rest / by
		rest = rest % by
	}
	return a, rest
}

func timesOneAnd(a limbRow, by int, more int) (limbRow, int) {
	carry := more
	for i := range a {
		sum := a[i]*by + carry
		a[i] = sum % Base
		carry = sum / Base
	}
	return a, carry
}

func powerOfTwo(k int) limbRow {
	var r limbRow
	r[k/limbBits] = 1 << (k % limbBits)
	return r
}

func cutRow(a limbRow) (limbRow, limbRow) {
	var lower, upper limbRow
	for i, x := range a {
		if i < lowerLimbs {
			lower[i] = x
		} else {
			upper[i-lowerLimbs] = x
		}
	}
	return lower, upper
}

// limbsUp is for a row whose last limbs are noughts: nothing is lost.
func limbsUp(a limbRow, by int) limbRow {
	var r limbRow
	for i := by; i < Limbs; i++ {
		r[i] = a[i-by]
	}
	return r
}

// inverseInBase: an odd m is its own inverse in the last 3 bits, and each
// round doubles how many bits are right: 6, 12, 24.
func inverseInBase(m int) int {
	inverse := m
	for range 3 {
		inverse = inverse * (Base + 2 - m*inverse%Base) % Base
	}
	return inverse
}
