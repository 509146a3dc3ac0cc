package tests

import (
	"testing"

	"loop.example/g00549/impl"
)

func TestPrimes(t *testing.T) {
	if impl.BigPrime != 2999 || impl.SmallPrime != 1499 || impl.Root != 4 {
		t.Error(impl.BigPrime, impl.SmallPrime, impl.Root)
	}
}

func TestPowerOf(t *testing.T) {
	powers := []int{0, 1, 2, 3, 4, 5, 1023, 1024, impl.SmallPrime - 1, impl.SmallPrime, impl.BigPrime - 2, impl.BigPrime - 1,
		impl.BigPrime, 65535, 65536, 524288, mostPower - 1, mostPower}
	for a := 1; a < impl.BigPrime; a++ {
		for _, k := range powers {
			if n, ok := impl.PowerOf(a, k); n != powerThere(a, k) || !ok {
				t.Errorf("%d to the %d: %d %v", a, k, n, ok)
			}
		}
	}
	for k := 0; k <= mostPower; k += 7 {
		if n, ok := impl.PowerOf(impl.BigPrime-1, k); n != powerThere(impl.BigPrime-1, k%2) || !ok {
			t.Fatalf("%d to the %d: %d %v", impl.BigPrime-1, k, n, ok)
		}
	}
}

func TestPowersGoUpOneByOne(t *testing.T) {
	for _, a := range []int{1, 2, 7, 2900, impl.BigPrime - 1} {
		power := 1
		for k := range 5000 {
			if n, ok := impl.PowerOf(a, k); n != power || !ok {
				t.Fatalf("%d to the %d: %d %v", a, k, n, ok)
			}
			power = timesThere(power, a)
		}
	}
}

func TestInverseOf(t *testing.T) {
	for a := 1; a < impl.BigPrime; a++ {
		i, ok := impl.InverseOf(a)
		if !ok || i < 1 || i >= impl.BigPrime || a*i%impl.BigPrime != 1 {
			t.Errorf("%d: %d %v", a, i, ok)
		}
	}
	if i, ok := impl.InverseOf(1); i != 1 || !ok {
		t.Error(i, ok)
	}
	if i, ok := impl.InverseOf(impl.BigPrime - 1); i != impl.BigPrime-1 || !ok {
		t.Error(i, ok)
	}
}

func TestMembersHaveTheSmallOrder(t *testing.T) {
	members := membersThere()
	many := 0
	for a := -impl.BigPrime; a <= 3*impl.BigPrime; a++ {
		if impl.IsMember(a) != members[a] {
			t.Errorf("%d: %v", a, impl.IsMember(a))
		}
		if !impl.IsMember(a) {
			continue
		}
		many++
		if n, ok := impl.PowerOf(a, impl.SmallPrime); n != 1 || !ok {
			t.Errorf("%d to the small prime: %d %v", a, n, ok)
		}
	}
	if many != impl.SmallPrime {
		t.Error("so many members:", many)
	}
	if !impl.IsMember(1) || impl.IsMember(impl.BigPrime-1) || !impl.IsMember(impl.Root) {
		t.Error("1 and Root are members, the greatest number is none")
	}
}

func TestPublicFor(t *testing.T) {
	seen := map[int]bool{}
	for secret := 1; secret < impl.SmallPrime; secret++ {
		public, ok := impl.PublicFor(secret)
		if public != powerThere(impl.Root, secret) || !ok || !impl.IsMember(public) || seen[public] {
			t.Errorf("%d: %d %v", secret, public, ok)
		}
		seen[public] = true
	}
}

func TestTwoWhoNeverMetMakeOneSecret(t *testing.T) {
	for one := 1; one < impl.SmallPrime; one++ {
		publicOne, _ := impl.PublicFor(one)
		for _, other := range secretsThere() {
			publicOther, _ := impl.PublicFor(other)
			here, ok := impl.SharedOf(one, publicOther)
			there, is := impl.SharedOf(other, publicOne)
			if here != there || !ok || !is || here != powerThere(impl.Root, one*other) {
				t.Fatalf("%d and %d: %d %d %v %v", one, other, here, there, ok, is)
			}
		}
	}
}

func TestSharedOfAnyMember(t *testing.T) {
	for public := range membersThere() {
		for _, secret := range secretsThere() {
			if n, ok := impl.SharedOf(secret, public); n != powerThere(public, secret) || !ok {
				t.Fatalf("%d to the %d: %d %v", public, secret, n, ok)
			}
		}
	}
}

func TestWhatIsSealedIsOpenedAsItWas(t *testing.T) {
	for _, secret := range secretsThere() {
		public, _ := impl.PublicFor(secret)
		for _, nonce := range secretsThere() {
			for _, m := range someMembers() {
				x, ok := impl.SealNumber(public, nonce, m)
				if x.A != powerThere(impl.Root, nonce) || x.B != timesThere(m, powerThere(public, nonce)) || !ok {
					t.Fatalf("%d sealed for %d by %d: %v %v", m, public, nonce, x, ok)
				}
				if n, ok := impl.OpenNumber(secret, x); n != m || !ok {
					t.Fatalf("%d sealed for %d by %d: %d %v", m, public, nonce, n, ok)
				}
			}
		}
	}
}

func TestEveryMemberCanBeSealed(t *testing.T) {
	public, _ := impl.PublicFor(impl.SmallPrime - 1)
	for m := range membersThere() {
		x, ok := impl.SealNumber(public, 1, m)
		if n, is := impl.OpenNumber(impl.SmallPrime-1, x); n != m || !is || !ok {
			t.Errorf("%d: %v %d", m, x, n)
		}
	}
	for public := range membersThere() {
		x, ok := impl.SealNumber(public, 2, impl.Root)
		if want := (impl.Sealed{A: 16, B: timesThere(impl.Root, public, public)}); x != want || !ok {
			t.Errorf("for %d: %v %v", public, x, ok)
		}
	}
}

func TestSealedAgainItIsOpenedAsItWas(t *testing.T) {
	members := someMembers()
	m := members[len(members)-1]
	for _, secret := range secretsThere() {
		public, _ := impl.PublicFor(secret)
		for _, nonce := range secretsThere() {
			x, _ := impl.SealNumber(public, 77, m)
			y, ok := impl.SealAgain(public, nonce, x)
			if y.A != timesThere(x.A, powerThere(impl.Root, nonce)) || y.B != timesThere(x.B, powerThere(public, nonce)) || !ok {
				t.Fatalf("%v again by %d: %v %v", x, nonce, y, ok)
			}
			if y.A == x.A {
				t.Errorf("%v again by %d looks the same: %v", x, nonce, y)
			}
			if n, ok := impl.OpenNumber(secret, y); n != m || !ok {
				t.Fatalf("%v again by %d: %d %v", x, nonce, n, ok)
			}
		}
	}
}

func TestSealedByTwoNoncesThatMakeNought(t *testing.T) {
	for _, nonce := range secretsThere() {
		x, _ := impl.SealNumber(256, nonce, 5)
		y, ok := impl.SealAgain(256, impl.SmallPrime-nonce, x)
		if y != (impl.Sealed{A: 1, B: 5}) || !ok {
			t.Errorf("%d: %v %v", nonce, y, ok)
		}
	}
}

func TestProductsOfSealedNumbersAreThoseOfTheNumbers(t *testing.T) {
	for _, secret := range secretsThere() {
		public, _ := impl.PublicFor(secret)
		for i, m := range someMembers() {
			for k, n := range someMembers() {
				x, _ := impl.SealNumber(public, 1+i, m)
				y, _ := impl.SealNumber(public, impl.SmallPrime-1-k, n)
				z, ok := impl.TimesSealed(x, y)
				if z != (impl.Sealed{A: timesThere(x.A, y.A), B: timesThere(x.B, y.B)}) || !ok {
					t.Fatalf("%v times %v: %v %v", x, y, z, ok)
				}
				if got, ok := impl.OpenNumber(secret, z); got != timesThere(m, n) || !ok {
					t.Fatalf("%d times %d: %d %v", m, n, got, ok)
				}
			}
		}
	}
}

func TestOpenNumberOfAnyMembers(t *testing.T) {
	for _, secret := range secretsThere() {
		for _, a := range someMembers() {
			for _, b := range someMembers() {
				m, ok := impl.OpenNumber(secret, impl.Sealed{A: a, B: b})
				if !ok || !impl.IsMember(m) || timesThere(m, powerThere(a, secret)) != b {
					t.Fatalf("%d %d by %d: %d %v", a, b, secret, m, ok)
				}
			}
		}
	}
}
