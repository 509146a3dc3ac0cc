package tests

import (
	"slices"
	"testing"

	"loop.example/g00549/impl"
)

// polled is what a function of chapter 6 tells, whichever it is.
type polled struct {
	n  int
	x  impl.Sealed
	ok bool
}

// pollCall is one call of a function of chapter 6; nums are secrets or parts,
// n is a public, a secret or a most.
type pollCall struct {
	name    string
	nums    []int
	nonces  []int
	choices []int
	votes   []impl.Sealed
	x       impl.Sealed
	n       int
	nonce   int
	choice  int
	m       int
}

func (c pollCall) run() polled {
	var out polled
	switch c.name {
	case "KeyOf":
		out.n, out.ok = impl.KeyOf(c.nums)
	case "CastVote":
		out.x, out.ok = impl.CastVote(c.n, c.nonce, c.choice)
	case "AddVotes":
		out.x, out.ok = impl.AddVotes(c.votes)
	case "OpenPart":
		out.n, out.ok = impl.OpenPart(c.n, c.x)
	case "OpenSum":
		out.n, out.ok = impl.OpenSum(c.x, c.nums, c.n)
	case "CountPoll":
		out.n, out.ok = impl.CountPoll(c.nums, c.nonces, c.choices)
	case "LogOf":
		out.n, out.ok = impl.LogOf(c.m, c.n)
	case "OpenAll":
		out.n, out.ok = impl.OpenAll(c.nums, c.x)
	}
	return out
}

func (c pollCall) isLong() bool {
	return len(c.nums) > 20 || len(c.nonces) > 20 || len(c.choices) > 20 || len(c.votes) > 20
}

func isRefusedPoll(t *testing.T, c pollCall) {
	t.Helper()
	if got := c.run(); got != (polled{}) {
		if c.isLong() {
			c = pollCall{name: c.name + " of very many"}
		}
		t.Errorf("%+v: %+v", c, got)
	}
}

func TestWrongTrusteesGetTheZeroAnswer(t *testing.T) {
	for _, secrets := range wrongSecretLists() {
		isRefusedPoll(t, pollCall{name: "KeyOf", nums: secrets})
		for _, x := range []impl.Sealed{{A: 4, B: 16}, {A: 1, B: 1}, {A: impl.BigPrime - 2, B: 4}, {}} {
			isRefusedPoll(t, pollCall{name: "OpenAll", nums: secrets, x: x})
		}
		isRefusedPoll(t, pollCall{name: "CountPoll", nums: secrets})
		isRefusedPoll(t, pollCall{name: "CountPoll", nums: secrets, nonces: []int{3}, choices: []int{1}})
		isRefusedPoll(t, pollCall{name: "CountPoll", nums: secrets, nonces: []int{3, 4}, choices: []int{0, 0}})
	}
}

func TestWrongVotesAreNotCast(t *testing.T) {
	for _, nonce := range append(secretsThere(), wrongSecrets()...) {
		for choice := range mostChoice + 1 {
			for _, public := range wrongMembers() {
				isRefusedPoll(t, pollCall{name: "CastVote", n: public, nonce: nonce, choice: choice})
			}
		}
	}
	for _, public := range append(someMembers(), wrongMembers()...) {
		for choice := range mostChoice + 1 {
			for _, nonce := range wrongSecrets() {
				isRefusedPoll(t, pollCall{name: "CastVote", n: public, nonce: nonce, choice: choice})
			}
		}
		for _, choice := range wrongChoices() {
			for _, nonce := range append(secretsThere(), wrongSecrets()...) {
				isRefusedPoll(t, pollCall{name: "CastVote", n: public, nonce: nonce, choice: choice})
			}
		}
	}
}

func TestWrongVotesAreNotAdded(t *testing.T) {
	for _, l := range wrongSealedLists() {
		isRefusedPoll(t, pollCall{name: "AddVotes", votes: l})
	}
}

// Two numbers that are no members make one, and are refused all the same.
func TestVotesAndPartsThatMakeMembersTogether(t *testing.T) {
	const no = impl.BigPrime - 2
	both := impl.Sealed{A: no, B: no}
	isRefusedPoll(t, pollCall{name: "AddVotes", votes: []impl.Sealed{both, both}})
	isRefusedPoll(t, pollCall{name: "AddVotes", votes: []impl.Sealed{both, {A: 4, B: 4}, both}})
	isRefusedPoll(t, pollCall{name: "OpenSum", x: impl.Sealed{A: 4, B: 16}, nums: []int{no, no}, n: mostLog})
	isRefusedPoll(t, pollCall{name: "OpenSum", x: impl.Sealed{A: 4, B: no}, nums: []int{no}, n: mostLog})
	isRefusedPoll(t, pollCall{name: "OpenSum", x: impl.Sealed{A: no, B: 4}, nums: []int{4}, n: mostLog})
	isRefusedPoll(t, pollCall{name: "OpenPart", x: impl.Sealed{A: no, B: 4}, n: 2})
	isRefusedPoll(t, pollCall{name: "OpenAll", x: impl.Sealed{A: no, B: 4}, nums: []int{2, 4}})
}

func TestWrongSealedAreNotOpened(t *testing.T) {
	for _, x := range wrongSealed() {
		for _, secret := range append(secretsThere(), wrongSecrets()...) {
			isRefusedPoll(t, pollCall{name: "OpenPart", n: secret, x: x})
		}
		for _, parts := range [][]int{nil, {1}, {4, 16}, {1, 1, 1, 1, 1}} {
			for _, most := range []int{-1, 0, 1, mostLog, mostLog + 1} {
				isRefusedPoll(t, pollCall{name: "OpenSum", x: x, nums: parts, n: most})
			}
		}
		for _, secrets := range secretLists() {
			isRefusedPoll(t, pollCall{name: "OpenAll", nums: secrets, x: x})
		}
	}
	for _, secret := range wrongSecrets() {
		for _, x := range someSealed() {
			isRefusedPoll(t, pollCall{name: "OpenPart", n: secret, x: x})
		}
	}
}

func TestWrongPartsTellNoSum(t *testing.T) {
	for _, parts := range wrongPartLists() {
		for _, x := range []impl.Sealed{{A: 1, B: 1}, {A: 4, B: 16}, {A: 16, B: 1024}} {
			for _, most := range []int{-1, 0, 5, mostLog, mostLog + 1} {
				isRefusedPoll(t, pollCall{name: "OpenSum", x: x, nums: parts, n: most})
			}
		}
	}
}

func TestWrongMostsTellNoLog(t *testing.T) {
	for _, most := range wrongMosts() {
		for k := range mostLog + 2 {
			isRefusedPoll(t, pollCall{name: "LogOf", m: rootThere(k), n: most})
			isRefusedPoll(t, pollCall{name: "OpenSum", x: impl.Sealed{A: 4, B: rootThere(k)}, n: most})
			isRefusedPoll(t, pollCall{name: "OpenSum", x: impl.Sealed{A: 4, B: rootThere(k)}, nums: []int{1, 1}, n: most})
		}
	}
}

func TestWhatIsNoMemberHasNoLog(t *testing.T) {
	for _, m := range wrongMembers() {
		for most := -1; most <= mostLog+1; most++ {
			isRefusedPoll(t, pollCall{name: "LogOf", m: m, n: most})
		}
	}
}

func TestPollsOfTooManyAreNotCounted(t *testing.T) {
	for _, many := range []int{impl.MaxVoters + 1, 2 * impl.MaxVoters, 100000} {
		nonces, choices := slices.Repeat([]int{7}, many), make([]int, many)
		isRefusedPoll(t, pollCall{name: "CountPoll", nums: []int{5, 7}, nonces: nonces, choices: choices})
		isRefusedPoll(t, pollCall{name: "CountPoll", nums: []int{5, 7}, nonces: nonces, choices: choices[:impl.MaxVoters]})
		isRefusedPoll(t, pollCall{name: "CountPoll", nums: []int{5, 7}, nonces: nonces[:impl.MaxVoters], choices: choices})
	}
}

func TestPollsOfUnlikeManyAreNotCounted(t *testing.T) {
	nonces, choices := slices.Repeat([]int{7}, impl.MaxVoters+2), slices.Repeat([]int{1}, impl.MaxVoters+2)
	for a := range len(nonces) + 1 {
		for b := range len(choices) + 1 {
			if a != b {
				isRefusedPoll(t, pollCall{name: "CountPoll", nums: []int{5, 7}, nonces: nonces[:a], choices: choices[:b]})
			}
		}
	}
}

func TestPollsWithOneWrongVoteAreNotCounted(t *testing.T) {
	for _, secrets := range [][]int{{5}, {1, greatestSmall}, {2, 3, 5, 7, 11}} {
		for _, nonces := range wrongAmong(7, wrongSecrets(), impl.MaxVoters) {
			for choice := range mostChoice + 1 {
				choices := slices.Repeat([]int{choice}, len(nonces))
				isRefusedPoll(t, pollCall{name: "CountPoll", nums: secrets, nonces: nonces, choices: choices})
			}
		}
		for _, choices := range wrongAmong(2, wrongChoices(), impl.MaxVoters) {
			nonces := slices.Repeat([]int{9}, len(choices))
			isRefusedPoll(t, pollCall{name: "CountPoll", nums: secrets, nonces: nonces, choices: choices})
		}
	}
}

func anyPollCalls() []pollCall {
	var out []pollCall
	for _, p := range somePolls() {
		out = append(out, pollCall{name: "CountPoll", nums: p.secrets, nonces: p.nonces, choices: p.choices})
	}
	numbers := slices.Concat(secretLists(), wrongSecretLists(), wrongPartLists(), [][]int{{1}, {4, 16}, {1, 4, 16, 64, 256}})
	for _, nums := range numbers {
		out = append(out, pollCall{name: "KeyOf", nums: nums},
			pollCall{name: "CountPoll", nums: nums, nonces: []int{3, 4}, choices: []int{1, 2}},
			pollCall{name: "CountPoll", nums: []int{5, 7}, nonces: nums, choices: make([]int, len(nums))},
			pollCall{name: "CountPoll", nums: []int{5, 7}, nonces: slices.Repeat([]int{1}, len(nums)), choices: nums})
		for _, x := range []impl.Sealed{{A: 4, B: 16}, {A: 1, B: 1}, {A: impl.BigPrime - 2, B: 4}} {
			out = append(out, pollCall{name: "OpenAll", nums: nums, x: x}, pollCall{name: "OpenSum", nums: nums, x: x, n: mostLog})
		}
	}
	for _, l := range append(sealedLists(), wrongSealedLists()...) {
		out = append(out, pollCall{name: "AddVotes", votes: l})
	}
	return out
}

func TestPollsAreNotWrittenInto(t *testing.T) {
	for _, c := range anyPollCalls() {
		if c.isLong() {
			continue
		}
		given := c
		var nums, nonces, choices []int
		var votes []impl.Sealed
		given.nums, nums = withRoom(c.nums, 7)
		given.nonces, nonces = withRoom(c.nonces, 7)
		given.choices, choices = withRoom(c.choices, 1)
		given.votes, votes = withRoom(c.votes, impl.Sealed{A: 4, B: 16})
		wereNums, wereNonces, wereChoices, wereVotes := slices.Clone(nums), slices.Clone(nonces), slices.Clone(choices), slices.Clone(votes)
		got := given.run()
		if !slices.Equal(nums, wereNums) || !slices.Equal(nonces, wereNonces) || !slices.Equal(choices, wereChoices) || !slices.Equal(votes, wereVotes) {
			t.Fatalf("%+v writes into an argument", c)
		}
		if got != c.run() {
			t.Errorf("%+v hangs on what lies behind the lists", c)
		}
		if got != given.run() {
			t.Errorf("%+v is another one the second time", c)
		}
	}
}

// One list may be all three arguments of CountPoll.
func TestAPollOfOneListThrice(t *testing.T) {
	l := []int{1, 2, 3, 2, 1}
	if n, ok := impl.CountPoll(l, l, l); n != 9 || !ok || !slices.Equal(l, []int{1, 2, 3, 2, 1}) {
		t.Error(n, ok, l)
	}
}

func TestNoListsInAPollAreTheNilOnes(t *testing.T) {
	for _, c := range []pollCall{{name: "KeyOf"}, {name: "AddVotes"}, {name: "OpenSum", x: impl.Sealed{A: 4, B: 16}, n: 2}, {name: "OpenAll", x: impl.Sealed{A: 4, B: 16}}, {name: "CountPoll"}} {
		empty := c
		empty.nums, empty.nonces, empty.choices, empty.votes = []int{}, []int{}, []int{}, []impl.Sealed{}
		if c.run() != empty.run() {
			t.Errorf("%+v: %+v, %+v", c, c.run(), empty.run())
		}
	}
}
