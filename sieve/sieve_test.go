package sieve_test

import (
	"math"
	"slices"
	"testing"

	"sconce/api"
	"sconce/sieve"
)

var belowNought = []int{-1, -2, -3, -10000, math.MinInt32, math.MinInt + 1, math.MinInt}

// aboveFurthest count as 10,000; 10,007 is the least prime above it.
var aboveFurthest = []int{10001, 10002, 10006, 10007, 10008, 10009, 20000, math.MaxInt32, 1 << 32, 1<<32 + 7, math.MaxInt - 1, math.MaxInt}

// askPrimes asks that a list is the one that is wanted.
func askPrimes(t *testing.T, n int, want []int) {
	t.Helper()
	if got := sieve.Primes(n); !slices.Equal(got, want) {
		t.Errorf("Primes(%d): %d primes, not %d: %d", n, len(got), len(want), got)
	}
}

// askFactor asks of x, also with noughts at its top.
func askFactor(t *testing.T, x api.Nat, bound, want int) {
	t.Helper()
	for _, more := range []int{0, 1, 3} {
		if got := sieve.Factor(longer(x, more), bound); got != want {
			t.Errorf("Factor(%x, %d) with %d noughts: %d, not %d", x, bound, more, got, want)
		}
	}
}

// askPasses asks of x, also with noughts at its top.
func askPasses(t *testing.T, x api.Nat, want bool) {
	t.Helper()
	for _, more := range []int{0, 1, 3} {
		if got := sieve.Passes(longer(x, more)); got != want {
			t.Errorf("Passes(%x) with %d noughts: %t", x, more, got)
		}
	}
}

// The chapter's examples.
func TestExamples(t *testing.T) {
	askPrimes(t, 10, []int{2, 3, 5, 7})
	if got := sieve.Factor(api.Nat{91}, 10); got != 7 {
		t.Errorf("Factor([91], 10): %d", got)
	}
	if !sieve.Passes(api.Nat{1000003}) {
		t.Error("Passes([1000003]): false")
	}
}

// P16.1
func TestPrimes(t *testing.T) {
	for _, c := range []struct {
		n    int
		want []int
	}{
		{0, nil}, {1, nil}, {2, []int{2}}, {3, []int{2, 3}}, {4, []int{2, 3}}, {5, []int{2, 3, 5}}, {6, []int{2, 3, 5}},
		{7, []int{2, 3, 5, 7}}, {8, []int{2, 3, 5, 7}}, {9, []int{2, 3, 5, 7}}, {11, []int{2, 3, 5, 7, 11}},
		{24, []int{2, 3, 5, 7, 11, 13, 17, 19, 23}}, {25, []int{2, 3, 5, 7, 11, 13, 17, 19, 23}},
		{30, []int{2, 3, 5, 7, 11, 13, 17, 19, 23, 29}},
	} {
		askPrimes(t, c.n, c.want)
	}
	for _, n := range belowNought {
		askPrimes(t, n, nil)
	}
}

// P16.1: how many there are, as is known.
func TestHowManyPrimes(t *testing.T) {
	for _, c := range []struct{ n, want int }{{10, 4}, {100, 25}, {1000, 168}, {5000, 669}, {9972, 1228}, {9973, 1229}, {10000, 1229}, {20000, 1229}} {
		if got := len(sieve.Primes(c.n)); got != c.want {
			t.Errorf("Primes(%d): %d primes, not %d", c.n, got, c.want)
		}
	}
}

// P16.1 of each n against the definition: primes and what is just below and above them, squares, all else.
func TestPrimesOfEach(t *testing.T) {
	all := plainPrimes(0, 10000)
	many := 0
	for n := -5; n <= 10000; n++ {
		if many < len(all) && all[many] == n {
			many++
		}
		askPrimes(t, n, all[:many])
	}
	for _, n := range aboveFurthest {
		askPrimes(t, n, all)
	}
}

// P16.2
func TestFactor(t *testing.T) {
	for _, c := range []struct {
		x           api.Nat
		bound, want int
	}{
		{api.Nat{1}, 100, 0}, {api.Nat{1}, 10000, 0}, {api.Nat{1}, math.MaxInt, 0},
		{api.Nat{2}, 1, 0}, {api.Nat{2}, 2, 2}, {api.Nat{2}, 3, 2}, {api.Nat{3}, 2, 0}, {api.Nat{3}, 3, 3}, {api.Nat{4}, 2, 2}, {api.Nat{4}, 1, 0},
		{api.Nat{6}, 2, 2}, {api.Nat{6}, 10, 2}, {api.Nat{9}, 2, 0}, {api.Nat{9}, 3, 3}, {api.Nat{15}, 10, 3}, {api.Nat{35}, 4, 0}, {api.Nat{35}, 5, 5}, {api.Nat{35}, 6, 5},
		{api.Nat{91}, 6, 0}, {api.Nat{91}, 7, 7}, {api.Nat{91}, 13, 7}, {api.Nat{1001}, 100, 7}, {api.Nat{143}, 10, 0}, {api.Nat{143}, 11, 11}, {api.Nat{143}, 12, 11},
		{api.Nat{97}, 96, 0}, {api.Nat{97}, 97, 97}, {api.Nat{97}, 98, 97}, {api.Nat{97 * 97}, 96, 0}, {api.Nat{97 * 97}, 97, 97},
		{api.Nat{9973}, 9972, 0}, {api.Nat{9973}, 9973, 9973}, {api.Nat{9973}, 10000, 9973}, {api.Nat{9973}, 10001, 9973}, {api.Nat{9973}, math.MaxInt, 9973},
		{api.Nat{9973 * 9973}, 9972, 0}, {api.Nat{9973 * 9973}, 9973, 9973}, {api.Nat{9967 * 9973}, 9967, 9967}, {api.Nat{9967 * 9973}, 10000, 9967},
		{api.Nat{10000}, 10000, 2}, {api.Nat{9999}, 10000, 3}, {api.Nat{10001}, 10000, 73}, {api.Nat{10001}, 72, 0}, {api.Nat{10001}, 73, 73},
		{api.Nat{1 << 63}, 2, 2}, {api.Nat{top}, 2, 0}, {api.Nat{top}, 3, 3}, {api.Nat{top - 58}, 10000, 0},
		// 2^64 is even; 2^64 + 1 is 274,177 times a prime; 2^64 + 2 is 2 times 3 times some; 2^65 - 1 is 31 times some.
		{api.Nat{0, 1}, 2, 2}, {api.Nat{1, 1}, 10000, 0}, {api.Nat{2, 1}, 10000, 2}, {api.Nat{top, 1}, 30, 0}, {api.Nat{top, 1}, 31, 31},
		// 2^127 - 1 is a prime; 2^128 - 1 is 3 times some.
		{api.Nat{top, top >> 1}, math.MaxInt, 0}, {api.Nat{top, top}, 10000, 3},
	} {
		askFactor(t, c.x, c.bound, c.want)
	}
}

// P16.2: 0 is divided by all, of which 2 is the least.
func TestFactorOfNought(t *testing.T) {
	for _, x := range []api.Nat{nil, {}, {0}, {0, 0}, make(api.Nat, 300), make(api.Nat, 301)} {
		for _, bound := range []int{2, 3, 4, 100, 9973, 10000, 10001, math.MaxInt} {
			askFactor(t, x, bound, 2)
		}
		for _, bound := range append([]int{0, 1}, belowNought...) {
			askFactor(t, x, bound, 0)
		}
	}
}

// P16.2: below 2 there is no prime, whatever x is.
func TestFactorBelowTwo(t *testing.T) {
	for _, x := range []api.Nat{{1}, {2}, {6}, {9973}, {0, 1}, {top, top}, single(300, 0, 2), full(300), full(301)} {
		for _, bound := range append([]int{0, 1}, belowNought...) {
			askFactor(t, x, bound, 0)
		}
	}
}

// P16.2 of each small number, with bounds of all kinds.
func TestFactorOfEach(t *testing.T) {
	all := plainPrimes(0, 10000)
	for x := range 2000 {
		for _, bound := range []int{-1, 0, 1, 2, 3, 4, 5, 6, 7, 10, 30, 31, 32, x - 1, x, x + 1, 9973, 10000, 10001, math.MaxInt} {
			want := plainFactor(all, bound, func(p int) int { return restOfWord(uint64(x), p) })
			if got := sieve.Factor(api.Nat{uint64(x)}, bound); got != want {
				t.Errorf("Factor(%d, %d): %d, not %d", x, bound, got, want)
			}
		}
	}
}

// P16.2 of each prime, its square, and its products with greater ones: at it and above it, not below.
func TestFactorAtEachPrime(t *testing.T) {
	for _, p := range plainPrimes(0, 10000) {
		w := uint64(p)
		for _, x := range []uint64{w, w * w, w * w * w, w * 9973, w * 10007, w * 10007 * 10009, w * (1<<31 - 1)} {
			for _, c := range []struct{ bound, want int }{{p - 1, 0}, {p, p}, {p + 1, p}, {10000, p}, {math.MaxInt, p}} {
				if got := sieve.Factor(api.Nat{x}, c.bound); got != c.want {
					t.Errorf("Factor(%d, %d): %d, not %d", x, c.bound, got, c.want)
				}
			}
		}
	}
}

// P16.2: a bound above 10,000 finds no prime that is above it, too.
func TestFactorAboveFurthest(t *testing.T) {
	for _, x := range []api.Nat{{10007}, {10009}, {10007 * 10007}, {10007 * 10009}, {1000003}, {1<<31 - 1}, {1<<61 - 1}, {top - 58}, powerOf(10007, 50), powerOf(10009, 300)} {
		for _, bound := range append([]int{2, 9973, 10000}, aboveFurthest...) {
			askFactor(t, x, bound, 0)
		}
	}
	for _, bound := range append([]int{9973, 10000}, aboveFurthest...) {
		askFactor(t, api.Nat{9973 * 10007}, bound, 9973)
		askFactor(t, times(powerOf(10007, 50), 9973), bound, 9973)
	}
}

// P16.2 of numbers of many words: the product of all small primes from one on has that one as its least.
func TestFactorOfGreatProducts(t *testing.T) {
	all := plainPrimes(0, 10000)
	x := api.Nat{1}
	for i := len(all) - 1; i >= 0; i-- {
		p := all[i]
		x = times(x, uint64(p))
		if got := sieve.Factor(x, p); got != p {
			t.Errorf("the product from %d on is divided by %d", p, got)
		}
		if got := sieve.Factor(x, p-1); got != 0 {
			t.Errorf("the product from %d on is divided by %d, which is below", p, got)
		}
	}
	askFactor(t, x, 10000, 2)
	for _, bound := range []int{2, 9973, 10000, math.MaxInt} {
		askFactor(t, after(x), bound, 0)
	}
}

// P16.2 of MaxWords words and of more.
func TestFactorOfMostWords(t *testing.T) {
	for _, n := range []int{2, 64, 299, 300, 301, 302, 1000} {
		rough := powerOf(10007, n)
		askFactor(t, rough, 10000, 0)
		for _, p := range []int{2, 3, 101, 9967, 9973} {
			x := times(powerOf(10007, n-1), uint64(p))
			askFactor(t, x, p-1, 0)
			askFactor(t, x, p, p)
			askFactor(t, x, 10000, p)
		}
		askFactor(t, single(n, n-1, 1), 10000, 2)
		askFactor(t, single(n, n-1, 1<<63), 2, 2)
		// 2^64 - 1 divides all of them, and 3 divides it.
		askFactor(t, full(n), 2, 0)
		askFactor(t, full(n), 10000, 3)
	}
}

// P16.2 of numbers that are spread, against rests brought down bit by bit.
func TestFactorOfMixtures(t *testing.T) {
	all := plainPrimes(0, 10000)
	next := spread(1)
	for round := range uint64(400) {
		x := mixture(1+int(next()>>8%5), round)
		// Without the factors 2 and 3 it is more often a greater prime that is the least.
		for rest(x, 2) == 0 || rest(x, 3) == 0 {
			x = after(x)
		}
		bound := int(next() >> 8 % 12000)
		want := plainFactor(all, bound, func(p int) int { return rest(x, p) })
		if got := sieve.Factor(x, bound); got != want {
			t.Errorf("Factor(%x, %d): %d, not %d", x, bound, got, want)
		}
	}
}

// P16.3
func TestPasses(t *testing.T) {
	for _, c := range []struct {
		x    api.Nat
		want bool
	}{
		{nil, false}, {api.Nat{}, false}, {api.Nat{0}, false}, {api.Nat{1}, false}, {make(api.Nat, 301), false}, {single(300, 0, 1), false}, {single(301, 0, 1), false},
		{api.Nat{2}, true}, {api.Nat{3}, true}, {api.Nat{4}, false}, {api.Nat{5}, true}, {api.Nat{6}, false}, {api.Nat{9}, false}, {api.Nat{25}, false},
		{api.Nat{991}, true}, {api.Nat{997}, true}, {api.Nat{998}, false}, {api.Nat{999}, false}, {api.Nat{1000}, false}, {api.Nat{1001}, false}, {api.Nat{1007}, false},
		{api.Nat{1009}, true}, {api.Nat{1013}, true}, {api.Nat{997 * 997}, false}, {api.Nat{997 * 1009}, false}, {api.Nat{1009 * 1009}, true}, {api.Nat{1009 * 1013}, true},
		{api.Nat{9973}, true}, {api.Nat{10007}, true}, {api.Nat{9973 * 9973}, true}, {api.Nat{10007 * 9973}, true}, {api.Nat{1000003}, true}, {api.Nat{top - 58}, true}, {api.Nat{top}, false}, {api.Nat{1 << 63}, false},
		// What passes or doesn't goes by the whole number, not by its lowest word.
		{api.Nat{0, 1}, false}, {api.Nat{1, 1}, true}, {api.Nat{2, 1}, false}, {api.Nat{0, 0, 1}, false}, {api.Nat{top, top >> 1}, true},
	} {
		askPasses(t, c.x, c.want)
	}
}

// plainPasses is Passes by the chapter's words of a number of one word, the primes up to 1000 being given.
func plainPasses(primes []int, x uint64) bool {
	if x <= 1 {
		return false
	}
	for _, p := range primes {
		if x == uint64(p) {
			return true
		}
		if restOfWord(x, p) == 0 {
			return false
		}
	}
	return true
}

// P16.3 of each number of some ranges.
func TestPassesOfEach(t *testing.T) {
	primes := plainPrimes(0, 1000)
	for _, start := range []uint64{0, 991*991 - 500, 997*997 - 500, 1009*1009 - 500, 1 << 31, 1<<32 - 500, 1 << 63, top - 1000} {
		many := uint64(1000)
		if start == 0 {
			many = 20000
		}
		for x := start; x < start+many; x++ {
			if got := sieve.Passes(api.Nat{x}); got != plainPasses(primes, x) {
				t.Errorf("Passes(%d): %t", x, got)
			}
		}
	}
}

// P16.3: the primes up to 1000 pass, with noughts above them as well; what has one in it and more does not.
func TestPassesAtEachPrime(t *testing.T) {
	primes := plainPrimes(0, 1000)
	for i, p := range primes {
		w := uint64(p)
		askPasses(t, api.Nat{w}, true)
		askPasses(t, single(300, 0, w), true)
		askPasses(t, single(301, 0, w), true)
		for _, q := range primes[i:] {
			askPasses(t, api.Nat{w * uint64(q)}, false)
		}
		for _, x := range []api.Nat{{w * w * w}, {w * 1009}, {w * 10007}, {w * (1<<31 - 1)}, {0, w}, {w, w}, {w, 0, w}, {0, 0, 0, w}, powerOf(w, 20), times(powerOf(1009, 20), w), times(powerOf(10007, 299), w), times(powerOf(10007, 300), w)} {
			askPasses(t, x, false)
		}
	}
}

// P16.3: a prime up to 1000 in the lowest word, with others above it, is another number.
func TestPassesWithWordsAbove(t *testing.T) {
	primes := plainPrimes(0, 1000)
	for _, p := range primes {
		for _, above := range []uint64{1, 2, 3, 30, 1 << 63, top} {
			for _, x := range []api.Nat{{uint64(p), above}, {uint64(p), 0, above}} {
				want := plainFactor(primes, 1000, func(p int) int { return rest(x, p) }) == 0
				askPasses(t, x, want)
			}
		}
	}
}

// P16.3 of numbers of many words out of primes above 1000 alone.
func TestPassesOfGreatProducts(t *testing.T) {
	small, others := plainPrimes(0, 1000), plainPrimes(1001, 10000)
	x := productOf(others...)
	askPasses(t, x, true)
	for _, p := range small {
		askPasses(t, times(x, uint64(p)), false)
	}
	askPasses(t, productOf(small...), false)
	askPasses(t, after(productOf(small...)), true)
	for _, n := range []int{2, 64, 299, 300, 301, 1000} {
		askPasses(t, powerOf(1009, n), true)
		askPasses(t, powerOf(997, n), false)
		askPasses(t, full(n), false)
		askPasses(t, single(n, n-1, 1), false)
	}
}

// P16.3 of numbers that are spread, against rests brought down bit by bit.
func TestPassesOfMixtures(t *testing.T) {
	primes := plainPrimes(0, 1000)
	passed := 0
	for round := range uint64(500) {
		x := mixture(1+int(round%6), round)
		want := plainFactor(primes, 1000, func(p int) int { return rest(x, p) }) == 0
		askPasses(t, x, want)
		if want {
			passed++
		}
	}
	if passed == 0 {
		t.Error("none of the mixtures is one that passes")
	}
}

// P2: whoever changes an answer changes no other one.
func TestAnswersAreNew(t *testing.T) {
	all := plainPrimes(0, 10000)
	one, other := sieve.Primes(10000), sieve.Primes(10000)
	for i := range one[:cap(one)] {
		one[:cap(one)][i] = 4
	}
	if !slices.Equal(other, all) {
		t.Error("an answer is changed by another one")
	}
	askPrimes(t, 10000, all)
	askPrimes(t, 30, all[:10])
	askFactor(t, api.Nat{91}, 10, 7)
	askFactor(t, api.Nat{4}, 10, 2)
	askPasses(t, api.Nat{997}, true)
	none := append(sieve.Primes(1), 4, 4, 4)
	if more := sieve.Primes(0); len(more) != 0 || len(none) != 3 {
		t.Error("an answer of none is changed by another one")
	}
}

// P2: a number stands in a list with more beside it, of which nothing may be read or written.
func TestNumbersWithRoom(t *testing.T) {
	for _, x := range []api.Nat{{}, {0}, {1}, {2}, {91}, {997, 0}, {997 * 1009}, {1009 * 1013}, {10007, 0, 0}, {0, 1}, {top, top}, mixture(50, 7), powerOf(10007, 300), full(301)} {
		want, passes := sieve.Factor(slices.Clip(slices.Clone(x)), 10000), sieve.Passes(slices.Clip(slices.Clone(x)))
		for _, beside := range []uint64{0, 1, 2, 3, top} {
			room := make(api.Nat, len(x)+40)
			for i := range room {
				room[i] = beside
			}
			copy(room[20:], x)
			before := slices.Clone(room)
			piece := room[20 : 20+len(x)]
			if got := sieve.Factor(piece, 10000); got != want {
				t.Errorf("Factor(%x, 10000) beside %x: %d, not %d", x, beside, got, want)
			}
			if got := sieve.Passes(piece); got != passes {
				t.Errorf("Passes(%x) beside %x: %t", x, beside, got)
			}
			if !slices.Equal(room, before) {
				t.Fatalf("%x or what is beside it is changed", x)
			}
		}
	}
}

// P3: answers hang on arguments alone, also behind other calls.
func TestCallsAreAlone(t *testing.T) {
	for range 3 {
		askPrimes(t, 10, []int{2, 3, 5, 7})
		askFactor(t, api.Nat{10001}, 10000, 73)
		askPasses(t, api.Nat{997}, true)
		askFactor(t, api.Nat{10001}, 72, 0)
		askPrimes(t, 2, []int{2})
		askPasses(t, api.Nat{997 * 1009}, false)
		askPrimes(t, -1, nil)
	}
}
