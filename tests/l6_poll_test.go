package tests

import (
	"maps"
	"math/rand"
	"slices"
	"testing"

	"loop.example/g00549/impl"
)

func isKey(t *testing.T, secrets []int, want int) {
	t.Helper()
	if got, ok := impl.KeyOf(secrets); !ok || got != want {
		t.Errorf("KeyOf(%v): %d, %v, not %d", secrets, got, ok, want)
	}
}

func isAdded(t *testing.T, l []impl.Sealed, want impl.Sealed) {
	t.Helper()
	if got, ok := impl.AddVotes(l); !ok || got != want {
		t.Errorf("AddVotes(%v): %v, %v, not %v", l, got, ok, want)
	}
}

func isSum(t *testing.T, x impl.Sealed, parts []int, most int, want int) {
	t.Helper()
	if got, ok := impl.OpenSum(x, parts, most); !ok || got != want {
		t.Errorf("OpenSum(%v, %v, %d): %d, %v, not %d", x, parts, most, got, ok, want)
	}
}

func isOpenAll(t *testing.T, secrets []int, x impl.Sealed, want int) {
	t.Helper()
	if got, ok := impl.OpenAll(secrets, x); !ok || got != want {
		t.Errorf("OpenAll(%v, %v): %d, %v, not %d", secrets, x, got, ok, want)
	}
}

func isCounted(t *testing.T, p poll, want int) {
	t.Helper()
	if got, ok := impl.CountPoll(p.secrets, p.nonces, p.choices); !ok || got != want {
		t.Errorf("CountPoll of %+v: %d, %v, not %d", p, got, ok, want)
	}
}

func isLog(t *testing.T, m int, most int, want int) {
	t.Helper()
	if got, ok := impl.LogOf(m, most); !ok || got != want {
		t.Errorf("LogOf(%d, %d): %d, %v, not %d", m, most, got, ok, want)
	}
}

func hasNoLog(t *testing.T, m int, most int) {
	t.Helper()
	if got, ok := impl.LogOf(m, most); ok || got != 0 {
		t.Errorf("LogOf(%d, %d): %d, %v", m, most, got, ok)
	}
}

func TestPollLimits(t *testing.T) {
	if impl.MaxVoters != 12 || impl.MaxTrustees != 5 {
		t.Error(impl.MaxVoters, impl.MaxTrustees)
	}
}

func TestKeyOfOneSecretIsItsPublic(t *testing.T) {
	for secret := 1; secret < impl.SmallPrime; secret++ {
		public, _ := impl.PublicFor(secret)
		isKey(t, []int{secret}, public)
	}
}

func TestKeyOfMoreIsTheProduct(t *testing.T) {
	for _, secrets := range secretLists() {
		product := 1
		for _, secret := range secrets {
			public, _ := impl.PublicFor(secret)
			product = timesThere(product, public)
		}
		isKey(t, secrets, product)
		isKey(t, secrets, rootThere(sumThere(secrets)))
		back := slices.Clone(secrets)
		slices.Reverse(back)
		isKey(t, back, product)
	}
}

func TestKeysByHand(t *testing.T) {
	isKey(t, []int{1}, 4)
	isKey(t, []int{1, 1}, 16)
	isKey(t, []int{1, 1, 1, 1, 1}, 1024)
	isKey(t, []int{2, 3}, 1024)
	// together they are 0, and the key that all could open is 1
	isKey(t, []int{1, greatestSmall}, 1)
	isKey(t, []int{300, 300, 300, 300, 299}, 1)
}

func TestCastVoteOpensAsRootToTheChoice(t *testing.T) {
	for _, secret := range secretsThere() {
		public, _ := impl.PublicFor(secret)
		for _, nonce := range secretsThere() {
			for choice := range mostChoice + 1 {
				x, ok := impl.CastVote(public, nonce, choice)
				if !ok || x != voteThere([]int{secret}, nonce, choice) {
					t.Fatalf("CastVote(%d, %d, %d): %v, %v", public, nonce, choice, x, ok)
				}
				sealed, _ := impl.SealNumber(public, nonce, []int{1, 4, 16, 64}[choice])
				m, ok := impl.OpenNumber(secret, x)
				if !ok || m != []int{1, 4, 16, 64}[choice] || x != sealed {
					t.Fatalf("CastVote(%d, %d, %d): %v opens as %d, %v", public, nonce, choice, x, m, ok)
				}
			}
		}
	}
}

func TestCastVoteForAnyMember(t *testing.T) {
	for public := range membersThere() {
		for choice := range mostChoice + 1 {
			want := impl.Sealed{A: 64, B: timesThere(public, public, public, rootThere(choice))}
			if x, ok := impl.CastVote(public, 3, choice); !ok || x != want {
				t.Errorf("CastVote(%d, 3, %d): %v, %v, not %v", public, choice, x, ok, want)
			}
		}
	}
}

func TestAddVotes(t *testing.T) {
	isAdded(t, nil, impl.Sealed{A: 1, B: 1})
	isAdded(t, []impl.Sealed{}, impl.Sealed{A: 1, B: 1})
	for _, x := range someSealed() {
		isAdded(t, []impl.Sealed{x}, x)
	}
	isAdded(t, []impl.Sealed{{A: 4, B: 16}, {A: 16, B: 64}}, impl.Sealed{A: 64, B: 1024})
	for _, l := range sealedLists() {
		want := impl.Sealed{A: 1, B: 1}
		for _, x := range l {
			want = impl.Sealed{A: timesThere(want.A, x.A), B: timesThere(want.B, x.B)}
		}
		isAdded(t, l, want)
	}
}

func TestVotesAddedInWhateverOrder(t *testing.T) {
	r := rand.New(rand.NewSource(7))
	for _, l := range sealedLists() {
		want, _ := impl.AddVotes(l)
		mixed := slices.Clone(l)
		slices.Reverse(mixed)
		isAdded(t, mixed, want)
		for range 5 {
			r.Shuffle(len(mixed), func(i, j int) { mixed[i], mixed[j] = mixed[j], mixed[i] })
			isAdded(t, mixed, want)
		}
	}
	votes := sealedLists()[3*5+2]
	want, _ := impl.AddVotes(votes)
	order := risingOrder(len(votes))
	for more := true; more; more = nextOrder(order) {
		var mixed []impl.Sealed
		for _, at := range order {
			mixed = append(mixed, votes[at])
		}
		isAdded(t, mixed, want)
	}
}

func TestVotesAddedBitByBit(t *testing.T) {
	for _, l := range sealedLists() {
		want, _ := impl.AddVotes(l)
		for cut := range len(l) + 1 {
			a, _ := impl.AddVotes(l[:cut])
			b, _ := impl.AddVotes(l[cut:])
			isAdded(t, []impl.Sealed{a, b}, want)
		}
	}
}

func TestOpenPart(t *testing.T) {
	for _, x := range someSealed() {
		for _, secret := range secretsThere() {
			want := powerThere(x.A, secret)
			if got, ok := impl.OpenPart(secret, x); !ok || got != want {
				t.Fatalf("OpenPart(%d, %v): %d, %v, not %d", secret, x, got, ok, want)
			}
		}
	}
	for secret := 1; secret < impl.SmallPrime; secret++ {
		public, _ := impl.PublicFor(secret)
		if got, ok := impl.OpenPart(secret, impl.Sealed{A: impl.Root, B: 1}); !ok || got != public {
			t.Errorf("OpenPart(%d, Root): %d, %v, not %d", secret, got, ok, public)
		}
	}
}

func TestOpenSumWithAllParts(t *testing.T) {
	for _, secrets := range secretLists() {
		for _, nonce := range []int{1, 2, 777, greatestSmall} {
			for sum := range mostLog + 1 {
				x := voteThere(secrets, nonce, sum)
				parts := partsOf(secrets, x)
				isSum(t, x, parts, mostLog, sum)
				isSum(t, x, parts, sum, sum)
				slices.Reverse(parts)
				isSum(t, x, parts, mostLog, sum)
			}
		}
	}
}

func TestOpenSumWithNoPart(t *testing.T) {
	for k := range mostLog + 1 {
		for _, a := range someMembers() {
			isSum(t, impl.Sealed{A: a, B: rootThere(k)}, nil, mostLog, k)
			isSum(t, impl.Sealed{A: a, B: rootThere(k)}, []int{}, k, k)
		}
	}
}

// A part that is missing leaves B divided by the others alone, whose log, where
// there is one, is another.
func TestOpenSumWithOneMissing(t *testing.T) {
	found, lost := 0, 0
	for _, secrets := range secretLists() {
		for nonce := 1; nonce < impl.SmallPrime; nonce += 31 {
			x := voteThere(secrets, nonce, 4)
			for at, secret := range secrets {
				parts := slices.Delete(partsOf(secrets, x), at, at+1)
				left := (nonce*secret + 4) % impl.SmallPrime
				if left <= mostLog {
					isSum(t, x, parts, mostLog, left)
					found++
				} else {
					isRefusedPoll(t, pollCall{name: "OpenSum", x: x, nums: parts, n: mostLog})
					lost++
				}
				if left == 4 {
					t.Errorf("%v with %v tells the sum", x, parts)
				}
			}
		}
	}
	if found == 0 || lost == 0 {
		t.Error(found, lost)
	}
}

func TestOpenSumUpToAMost(t *testing.T) {
	secrets := []int{3, 1400, 77}
	for sum := range mostLog + 1 {
		x := voteThere(secrets, 1234, sum)
		parts := partsOf(secrets, x)
		for most := range mostLog + 1 {
			if sum <= most {
				isSum(t, x, parts, most, sum)
			} else {
				isRefusedPoll(t, pollCall{name: "OpenSum", x: x, nums: parts, n: most})
			}
		}
	}
	x := voteThere(secrets, 1234, mostLog+1)
	isRefusedPoll(t, pollCall{name: "OpenSum", x: x, nums: partsOf(secrets, x), n: mostLog})
}

func TestOpenSumWithAnyMembers(t *testing.T) {
	members := someMembers()
	for i, a := range members {
		for k := range mostLog + 1 {
			parts := []int{a, members[(i+k)%len(members)], members[(i+7)%len(members)], 1, a}
			for many := range len(parts) + 1 {
				x := impl.Sealed{A: a, B: timesThere(append(parts[:many:many], rootThere(k))...)}
				isSum(t, x, parts[:many], mostLog, k)
			}
		}
	}
}

func TestLogsByHand(t *testing.T) {
	for most := range mostLog + 1 {
		isLog(t, 1, most, 0)
	}
	hasNoLog(t, impl.Root, 0)
	isLog(t, impl.Root, 1, 1)
	hasNoLog(t, 1024, 4)
	isLog(t, 1024, 5, 5)
	isLog(t, 1024, mostLog, 5)
	isLog(t, 4096-impl.BigPrime, 6, 6)
}

func TestLogsUpToEachMost(t *testing.T) {
	for k := range mostLog + 20 {
		for most := range mostLog + 1 {
			if k <= most {
				isLog(t, rootThere(k), most, k)
			} else {
				hasNoLog(t, rootThere(k), most)
			}
		}
	}
	hasNoLog(t, rootThere(mostLog+1), mostLog)
}

func TestLogOfEachMember(t *testing.T) {
	seen := map[int]bool{}
	m := 1
	for log := range impl.SmallPrime {
		for _, most := range []int{0, 1, 36, mostLog - 1, mostLog} {
			if log <= most {
				isLog(t, m, most, log)
			} else {
				hasNoLog(t, m, most)
			}
		}
		seen[m] = true
		m = timesThere(m, impl.Root)
	}
	if !maps.Equal(seen, membersThere()) {
		t.Error("so many members were tried:", len(seen))
	}
}

func TestAPollTellsTheSumOfAllChoices(t *testing.T) {
	for _, p := range somePolls() {
		isCounted(t, p, sumThere(p.choices))
	}
}

func TestPollsByHand(t *testing.T) {
	isCounted(t, poll{[]int{5}, nil, nil}, 0)
	isCounted(t, poll{[]int{1, 2, 3, 4, 5}, []int{}, []int{}}, 0)
	isCounted(t, poll{[]int{5}, []int{1}, []int{3}}, 3)
	nonces := []int{1, 2, 3, 4, 5, 6, 7, 8, 9, 10, 11, 12}
	isCounted(t, poll{[]int{9, 8, 7, 6, 5}, nonces, slices.Repeat([]int{3}, 12)}, 36)
	isCounted(t, poll{[]int{9, 8, 7, 6, 5}, nonces, make([]int, 12)}, 0)
	isCounted(t, poll{[]int{9}, nonces, []int{0, 1, 2, 3, 0, 1, 2, 3, 0, 1, 2, 3}}, 18)
}

func TestAPollOfOneWithEachNonceAndSecret(t *testing.T) {
	for n := 1; n < impl.SmallPrime; n++ {
		isCounted(t, poll{[]int{n}, []int{impl.SmallPrime - n}, []int{n % 4}}, n%4)
		isCounted(t, poll{[]int{7, n}, []int{n, 3}, []int{3, n % 4}}, 3+n%4)
	}
}

// What CountPoll does at once is done here hand by hand: nobody has the whole
// key, and no vote is opened.
func TestAPollStepByStep(t *testing.T) {
	for _, p := range somePolls() {
		public, ok := impl.KeyOf(p.secrets)
		var votes []impl.Sealed
		for i, nonce := range p.nonces {
			vote, is := impl.CastVote(public, nonce, p.choices[i])
			if vote != voteThere(p.secrets, nonce, p.choices[i]) {
				t.Fatalf("CastVote(%d, %d, %d): %v", public, nonce, p.choices[i], vote)
			}
			votes, ok = append(votes, vote), ok && is
		}
		sum, is := impl.AddVotes(votes)
		var parts []int
		for _, secret := range p.secrets {
			part, fine := impl.OpenPart(secret, sum)
			parts, ok = append(parts, part), ok && fine
		}
		if !ok || !is {
			t.Fatalf("%+v: %v, %v", p, ok, is)
		}
		isSum(t, sum, parts, mostLog, sumThere(p.choices))
		isOpenAll(t, p.secrets, sum, rootThere(sumThere(p.choices)))
	}
}

func TestOpenAllAsOneWithTheWholeKey(t *testing.T) {
	for _, secrets := range secretLists() {
		key, _ := impl.KeyOf(secrets)
		whole := sumThere(secrets) % impl.SmallPrime
		for _, nonce := range []int{1, 2, 999, greatestSmall} {
			for _, m := range someMembers() {
				x, ok := impl.SealNumber(key, nonce, m)
				if !ok {
					t.Fatalf("SealNumber(%d, %d, %d) is refused", key, nonce, m)
				}
				isOpenAll(t, secrets, x, m)
				// a whole key of 0 is no secret, and opens what is open
				if got, ok := impl.OpenNumber(whole, x); whole != 0 && (!ok || got != m) {
					t.Errorf("OpenNumber(%d, %v): %d, %v, not %d", whole, x, got, ok, m)
				}
			}
		}
	}
}

func TestOpenAllOfAnySealedNumber(t *testing.T) {
	for _, secrets := range secretLists() {
		for _, x := range someSealed() {
			parts := timesThere(partsOf(secrets, x)...)
			isOpenAll(t, secrets, x, timesThere(x.B, inverseThere(parts)))
			back := slices.Clone(secrets)
			slices.Reverse(back)
			isOpenAll(t, back, x, timesThere(x.B, inverseThere(parts)))
		}
	}
}

func TestOpenAllOfOneIsOpenNumber(t *testing.T) {
	for _, x := range someSealed() {
		for _, secret := range secretsThere() {
			m, _ := impl.OpenNumber(secret, x)
			isOpenAll(t, []int{secret}, x, m)
		}
	}
}
