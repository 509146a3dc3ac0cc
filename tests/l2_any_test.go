package tests

import (
	"math"
	"testing"

	"loop.example/g00549/impl"
)

func isRefused(t *testing.T, what string, n int, ok bool, args ...int) {
	t.Helper()
	if n != 0 || ok {
		t.Errorf("%s of %v: %d %v", what, args, n, ok)
	}
}

func isRefusedSeal(t *testing.T, what string, x impl.Sealed, ok bool, args ...any) {
	t.Helper()
	if x != (impl.Sealed{}) || ok {
		t.Errorf("%s of %v: %v %v", what, args, x, ok)
	}
}

func TestWrongPowersGetTheZeroAnswer(t *testing.T) {
	wrongPowers := []int{math.MinInt, math.MinInt + 1, -mostPower, -2, -1, mostPower + 1, 1 << 32, math.MaxInt}
	for _, a := range wrongRests() {
		for _, k := range append(wrongPowers, 0, 1, 2, 1499, mostPower) {
			n, ok := impl.PowerOf(a, k)
			isRefused(t, "PowerOf", n, ok, a, k)
		}
		n, ok := impl.InverseOf(a)
		isRefused(t, "InverseOf", n, ok, a)
	}
	for _, a := range []int{1, 2, impl.Root, impl.BigPrime - 1} {
		for _, k := range wrongPowers {
			n, ok := impl.PowerOf(a, k)
			isRefused(t, "PowerOf", n, ok, a, k)
		}
	}
}

func TestWhatIsNoMember(t *testing.T) {
	for _, a := range wrongMembers() {
		if impl.IsMember(a) {
			t.Errorf("%d is no member", a)
		}
	}
}

func TestWrongSecretsGetTheZeroAnswer(t *testing.T) {
	good := impl.Sealed{A: 16, B: 1}
	for _, secret := range wrongSecrets() {
		n, ok := impl.PublicFor(secret)
		isRefused(t, "PublicFor", n, ok, secret)
		for _, public := range append(wrongMembers(), someMembers()...) {
			n, ok := impl.SharedOf(secret, public)
			isRefused(t, "SharedOf", n, ok, secret, public)
			x, ok := impl.SealNumber(public, secret, 4)
			isRefusedSeal(t, "SealNumber", x, ok, public, secret)
			x, ok = impl.SealAgain(public, secret, good)
			isRefusedSeal(t, "SealAgain", x, ok, public, secret)
		}
		n, ok = impl.OpenNumber(secret, good)
		isRefused(t, "OpenNumber", n, ok, secret)
	}
}

func TestWrongMembersGetTheZeroAnswer(t *testing.T) {
	for _, a := range wrongMembers() {
		for _, secret := range append(wrongSecrets(), secretsThere()...) {
			n, ok := impl.SharedOf(secret, a)
			isRefused(t, "SharedOf", n, ok, secret, a)
			for _, b := range []int{a, 0, 1, 2, 4} {
				x, ok := impl.SealNumber(a, secret, b)
				isRefusedSeal(t, "SealNumber", x, ok, a, secret, b)
				x, ok = impl.SealNumber(b, secret, a)
				isRefusedSeal(t, "SealNumber", x, ok, b, secret, a)
			}
			x, ok := impl.SealAgain(a, secret, impl.Sealed{A: 4, B: 16})
			isRefusedSeal(t, "SealAgain", x, ok, a, secret)
		}
	}
}

func TestWrongSealedGetTheZeroAnswer(t *testing.T) {
	good := impl.Sealed{A: 4, B: 16}
	wrong := []impl.Sealed{{}}
	for _, a := range wrongMembers() {
		wrong = append(wrong, impl.Sealed{A: a, B: 4}, impl.Sealed{A: 4, B: a}, impl.Sealed{A: a, B: a})
	}
	for _, x := range wrong {
		for _, secret := range []int{0, 1, 5, impl.SmallPrime - 1, impl.SmallPrime} {
			n, ok := impl.OpenNumber(secret, x)
			if n != 0 || ok {
				t.Errorf("OpenNumber of %d, %v: %d %v", secret, x, n, ok)
			}
			y, ok := impl.SealAgain(16, secret, x)
			isRefusedSeal(t, "SealAgain", y, ok, secret, x)
		}
		y, ok := impl.TimesSealed(x, good)
		isRefusedSeal(t, "TimesSealed", y, ok, x, good)
		y, ok = impl.TimesSealed(good, x)
		isRefusedSeal(t, "TimesSealed", y, ok, good, x)
		y, ok = impl.TimesSealed(x, x)
		isRefusedSeal(t, "TimesSealed", y, ok, x, x)
	}
}

// Products of numbers that are no members may be members, and are refused all
// the same.
func TestProductsOfNoMembersAreRefused(t *testing.T) {
	x := impl.Sealed{A: impl.BigPrime - 1, B: impl.BigPrime - 1}
	y, ok := impl.TimesSealed(x, x)
	isRefusedSeal(t, "TimesSealed", y, ok, x, x)
	n, ok := impl.SharedOf(2, impl.BigPrime-1)
	isRefused(t, "SharedOf", n, ok, 2, impl.BigPrime-1)
	n, ok = impl.OpenNumber(2, impl.Sealed{A: impl.BigPrime - 1, B: 4})
	isRefused(t, "OpenNumber", n, ok, 2)
}
