package tests

import (
	"math"
	"slices"
	"testing"

	"loop.example/g00549/impl"
)

// answer is what a function of chapter 1 tells, whichever it is.
type answer struct {
	lists []impl.Big
	n     int
	text  string
	ok    bool
}

// taker is a function of chapter 1 that takes one or two numbers.
type taker struct {
	name  string
	takes int
	run   func(args []impl.Big) answer
}

func ofPair(name string, f func(impl.Big, impl.Big) (impl.Big, bool)) taker {
	return taker{name, 2, func(args []impl.Big) answer {
		x, ok := f(args[0], args[1])
		return answer{lists: []impl.Big{x}, ok: ok}
	}}
}

func ofShift(name string, by int) taker {
	return taker{name, 1, func(args []impl.Big) answer {
		x, ok := impl.ShiftBig(args[0], by)
		return answer{lists: []impl.Big{x}, ok: ok}
	}}
}

func takers() []taker {
	return []taker{
		ofPair("AddBig", impl.AddBig),
		ofPair("LessBig", impl.LessBig),
		ofPair("TimesBig", impl.TimesBig),
		ofPair("HalvesTimes", impl.HalvesTimes),
		ofPair("ReduceBig", impl.ReduceBig),
		ofShift("ShiftBig by -96", -96),
		ofShift("ShiftBig by -17", -17),
		ofShift("ShiftBig by 0", 0),
		ofShift("ShiftBig by 17", 17),
		ofShift("ShiftBig by 96", 96),
		ofShift("ShiftBig by 97", 97),
		{"GoodBig", 1, func(args []impl.Big) answer {
			return answer{ok: impl.GoodBig(args[0])}
		}},
		{"DigitsOf", 1, func(args []impl.Big) answer {
			s, ok := impl.DigitsOf(args[0])
			return answer{text: s, ok: ok}
		}},
		{"CompareBig", 2, func(args []impl.Big) answer {
			n, ok := impl.CompareBig(args[0], args[1])
			return answer{n: n, ok: ok}
		}},
		{"DivBig", 2, func(args []impl.Big) answer {
			q, r, ok := impl.DivBig(args[0], args[1])
			return answer{lists: []impl.Big{q, r}, ok: ok}
		}},
	}
}

// callsOf are all arguments that f can be given of what stands in from.
func callsOf(f taker, from []impl.Big) [][]impl.Big {
	var calls [][]impl.Big
	for _, a := range from {
		if f.takes == 1 {
			calls = append(calls, []impl.Big{a})
			continue
		}
		for _, b := range from {
			calls = append(calls, []impl.Big{a, b})
		}
	}
	return calls
}

func allBigs() []impl.Big {
	return append(someBigs(), wrongBigs()...)
}

func isZero(x answer) bool {
	return x.n == 0 && x.text == "" && !x.ok && !slices.ContainsFunc(x.lists, func(a impl.Big) bool { return !isNought(a) })
}

func alikeAnswers(x answer, y answer) bool {
	return x.n == y.n && x.text == y.text && x.ok == y.ok && slices.EqualFunc(x.lists, y.lists, same)
}

func TestWrongNumbersGetTheZeroAnswer(t *testing.T) {
	for _, f := range takers() {
		for _, args := range callsOf(f, allBigs()) {
			got := f.run(args)
			wrong := slices.ContainsFunc(args, func(a impl.Big) bool { return !impl.GoodBig(a) })
			if (wrong || !got.ok) && !isZero(got) {
				t.Errorf("%s of %v: %v", f.name, args, got)
			}
		}
	}
}

func TestWrongShiftsOfWrongNumbers(t *testing.T) {
	for _, a := range wrongBigs() {
		for _, by := range []int{math.MinInt, -97, 97, math.MaxInt} {
			if x, ok := impl.ShiftBig(a, by); ok || !isNought(x) {
				t.Errorf("%v by %d: %v %v", a, by, x, ok)
			}
		}
	}
}

func TestTheNilListIsTheEmptyOne(t *testing.T) {
	for _, f := range takers() {
		for _, args := range callsOf(f, allBigs()) {
			for i, a := range args {
				if !isNought(a) {
					continue
				}
				withNil, withEmpty := slices.Clone(args), slices.Clone(args)
				withNil[i], withEmpty[i] = impl.Big{}, impl.Big{L: []int{}}
				if !alikeAnswers(f.run(withNil), f.run(withEmpty)) {
					t.Errorf("%s of %v", f.name, args)
				}
			}
		}
	}
}

const hidden = 40961

// roomy is args with memory behind each list's length, and all of that memory.
func roomy(args []impl.Big) ([]impl.Big, [][]int) {
	var out []impl.Big
	var all [][]int
	for _, a := range args {
		l := append(slices.Clone(a.L), hidden, hidden, hidden)
		all = append(all, l)
		out = append(out, impl.Big{L: l[:len(a.L)]})
	}
	return out, all
}

func cloneRows(l [][]int) [][]int {
	var out [][]int
	for _, r := range l {
		out = append(out, slices.Clone(r))
	}
	return out
}

// scribble writes over all memory that an answer holds, behind its length too.
func scribble(a impl.Big) {
	l := a.L[:cap(a.L)]
	for i := range l {
		l[i] = -77
	}
}

func TestArgumentsAreNeitherWrittenNorShared(t *testing.T) {
	for _, f := range takers() {
		for _, args := range callsOf(f, allBigs()) {
			given, all := roomy(args)
			before := cloneRows(all)
			got := f.run(given)
			if !slices.EqualFunc(all, before, slices.Equal) {
				t.Fatalf("%s of %v writes into an argument", f.name, args)
			}
			if !alikeAnswers(got, f.run(args)) {
				t.Errorf("%s of %v hangs on what lies behind the lists", f.name, args)
			}
			for _, l := range got.lists {
				scribble(l)
			}
			if !slices.EqualFunc(all, before, slices.Equal) {
				t.Fatalf("%s of %v shares memory with an argument", f.name, args)
			}
		}
	}
}

func TestOneNumberMayBeBothArguments(t *testing.T) {
	for _, f := range takers() {
		for _, a := range allBigs() {
			given, all := roomy([]impl.Big{a})
			before := cloneRows(all)
			got := f.run([]impl.Big{given[0], given[0]})
			if !alikeAnswers(got, f.run([]impl.Big{a, {L: slices.Clone(a.L)}})) {
				t.Errorf("%s of %v twice: %v", f.name, a, got)
			}
			if !slices.EqualFunc(all, before, slices.Equal) {
				t.Fatalf("%s of %v twice writes into it", f.name, a)
			}
		}
	}
}

func TestListsOfOneAnswerShareNothing(t *testing.T) {
	for _, a := range someBigs() {
		for _, b := range someBigs() {
			q, r, _ := impl.DivBig(a, b)
			rest := slices.Clone(r.L)
			scribble(q)
			if !slices.Equal(r.L, rest) {
				t.Fatalf("%v by %v: quotient and rest share memory", a, b)
			}
		}
	}
}

func TestNothingLiesBehindAnAnswer(t *testing.T) {
	for _, f := range takers() {
		for _, args := range callsOf(f, someBigs()) {
			for _, l := range f.run(args).lists {
				behind := l.L[len(l.L):cap(l.L)]
				if slices.ContainsFunc(behind, func(x int) bool { return x != 0 }) {
					t.Fatalf("%s of %v hands out what lies behind %v", f.name, args, l)
				}
			}
		}
	}
}

func TestAnswersAreNewEachTime(t *testing.T) {
	for _, f := range takers() {
		for _, args := range callsOf(f, someBigs()) {
			for _, l := range f.run(args).lists {
				scribble(l)
			}
			for _, l := range f.run(args).lists {
				if !impl.GoodBig(l) {
					t.Fatalf("%s of %v: %v the second time", f.name, args, l)
				}
			}
		}
	}
	for _, n := range []int{1, 65536, 1 << 62} {
		a, _ := impl.BigOf(n)
		scribble(a)
		if again, ok := impl.BigOf(n); !ok || natOf(again).Int64() != int64(n) {
			t.Error("BigOf the second time:", again, ok)
		}
	}
	for _, s := range []string{"1", "65536", fullDigits} {
		a, _ := impl.OfDigits(s)
		scribble(a)
		if again, ok := impl.OfDigits(s); !ok || natOf(again).String() != s {
			t.Error("OfDigits the second time:", again, ok)
		}
	}
}
