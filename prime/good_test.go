package prime_test

import (
	"slices"
	"testing"

	"sconce/api"
	"sconce/prime"
)

// exponents are small and great ones, odd and even, primes and products.
var exponents = []uint64{0, 1, 2, 3, 4, 5, 6, 7, 9, 11, 13, 15, 16, 17, 21, 101, 255, 257, 997, 1001, 1009, 65535, 65536, 65537, 1<<31 - 1, 1 << 32, 1<<32 + 1, 1<<61 - 1, 1 << 63, top - 58, top - 1, top}

// askGood asks of p, also with noughts at its top.
func askGood(t *testing.T, p api.Nat, e uint64, want bool) {
	t.Helper()
	for _, more := range []int{0, 1, 3, 300} {
		if got := prime.Good(longer(p, more), e); got != want {
			t.Errorf("Good(%x, %d) with %d noughts: %t", p, e, more, got)
		}
	}
}

// P18.2 in numbers written out.
func TestGood(t *testing.T) {
	for _, c := range []struct {
		p    api.Nat
		e    uint64
		want bool
	}{
		// 22 is 2 times 11; 30 is 2 times 3 times 5; 996 is 4 times 3 times 83.
		{api.Nat{23}, 3, true}, {api.Nat{23}, 11, false}, {api.Nat{23}, 22, false}, {api.Nat{23}, 33, false}, {api.Nat{23}, 2, false}, {api.Nat{23}, 21, true}, {api.Nat{23}, 23, true},
		{api.Nat{31}, 3, false}, {api.Nat{31}, 5, false}, {api.Nat{31}, 7, true}, {api.Nat{31}, 49, true}, {api.Nat{31}, 35, false}, {api.Nat{31}, 1, true},
		{api.Nat{997}, 3, false}, {api.Nat{997}, 5, true}, {api.Nat{997}, 83, false}, {api.Nat{997}, 83 * 5, false}, {api.Nat{997}, 996, false}, {api.Nat{997}, 997, true},
		// Products of primes up to 1000 don't pass, of others they do.
		{api.Nat{25}, 5, false}, {api.Nat{25}, 7, false}, {api.Nat{997 * 997}, 7, false}, {api.Nat{997 * 1009}, 7, false}, {api.Nat{9}, 3, false},
		{api.Nat{1009 * 1009}, 11, true}, {api.Nat{1009 * 1009}, 3, false}, {api.Nat{1009 * 1009}, 65537, true}, {api.Nat{1009 * 1009}, 101, false}, {api.Nat{1009 * 1013}, 7, true},
		{api.Nat{0xc001}, 65537, false}, {api.Nat{0xc005}, 65537, true}, {api.Nat{0xc005}, 3, true}, {api.Nat{0xc005}, 2, false},
		// 2 less 1 is 1, which has nothing together with any e.
		{api.Nat{2}, 0, false}, {api.Nat{2}, 1, true}, {api.Nat{2}, 2, true}, {api.Nat{2}, 3, true}, {api.Nat{2}, 65537, true}, {api.Nat{2}, 1 << 63, true}, {api.Nat{2}, top, true},
		{api.Nat{3}, 0, false}, {api.Nat{3}, 1, true}, {api.Nat{3}, 2, false}, {api.Nat{3}, 3, true}, {api.Nat{3}, top - 1, false}, {api.Nat{3}, top, true},
		{api.Nat{4}, 1, false}, {api.Nat{4}, 5, false}, {api.Nat{6}, 7, false},
		// 65536 is a power of 2; 65537 divides 2^64 - 1, which is 3 5 17 257 641 65537 6700417.
		{api.Nat{65537}, 3, true}, {api.Nat{65537}, 65537, true}, {api.Nat{65537}, 65536, false}, {api.Nat{65537}, top, true}, {api.Nat{65537}, top - 1, false},
		{api.Nat{1<<31 - 1}, 3, false}, {api.Nat{1<<31 - 1}, 331, false}, {api.Nat{1<<31 - 1}, 65537, true}, {api.Nat{1<<31 - 1}, top, false},
		// 2^64 - 59 is a prime; that less 1 is 4 times 11 times 137 times 547 times 5594472617641.
		{api.Nat{top - 58}, 3, true}, {api.Nat{top - 58}, 11, false}, {api.Nat{top - 58}, 137 * 3, false}, {api.Nat{top - 58}, top - 59, false}, {api.Nat{top - 58}, top - 58, true}, {api.Nat{top - 58}, 5594472617641, false}, {api.Nat{top - 58}, top, true},
		// 2^64 + 13 is a prime, and so is 2^127 - 1, which less 1 is 2 times 27 times 49 times 19 times 43 and so on.
		{api.Nat{13, 1}, 3, true}, {api.Nat{13, 1}, 1, true}, {api.Nat{13, 1}, 0, false}, {ones(127, 1), 3, false}, {ones(127, 1), 7, false}, {ones(127, 1), 43 * 5, false}, {ones(127, 1), 5, true}, {ones(127, 1), 65537, true},
		// 2^64 + 1 is 274,177 times a prime: it passes; that less 1 is a power of 2.
		{api.Nat{1, 1}, 3, true}, {api.Nat{1, 1}, 1<<63 + 1, true}, {api.Nat{1, 1}, top, true}, {api.Nat{1, 1}, 2, false}, {api.Nat{1, 1}, 1 << 63, false}, {api.Nat{1, 1}, top - 1, false},
		{api.Nat{0, 1}, 3, false}, {api.Nat{2, 1}, 5, false}, {api.Nat{top, top}, 7, false},
	} {
		askGood(t, c.p, c.e, c.want)
	}
}

// P18.2: 0 and 1 are never good, and nothing is with an e of 0.
func TestNotGood(t *testing.T) {
	for _, e := range exponents {
		for _, p := range []api.Nat{nil, {}, {0}, {0, 0}, {1}, {1, 0}, make(api.Nat, 300), make(api.Nat, 301), single(301, 0, 1)} {
			askGood(t, p, e, false)
		}
	}
	for _, p := range []api.Nat{{2}, {3}, {4}, {23}, {997}, {1009}, {1009 * 1009}, {top - 58}, {1, 1}, ones(127, 1), ones(521, 1)} {
		askGood(t, p, 0, false)
	}
}

// hasTogether says by the definition whether a number above 1 divides both; 0 is divided by all.
func hasTogether(a, b uint64) bool {
	for d := uint64(2); d <= b; d++ {
		if a%d == 0 && b%d == 0 {
			return true
		}
	}
	return false
}

// P18.2 of each small p and e, by the definitions alone.
func TestGoodOfEach(t *testing.T) {
	for p := range uint64(2200) {
		for e := range uint64(70) {
			want := isPrime(p) && e > 0 && !hasTogether(p-1, e)
			if got := prime.Good(api.Nat{p}, e); got != want {
				t.Fatalf("Good(%d, %d): %t", p, e, got)
			}
		}
	}
}

// P18.2 against the chapter's words: of words, with all kinds of e, those among them that have a divisor of p - 1.
func TestGoodAsPlain(t *testing.T) {
	next := spread(5)
	primes := smallPrimes()
	ask := func(p api.Nat, e uint64) {
		t.Helper()
		if got := prime.Good(p, e); got != plainGood(p, e, primes) {
			t.Fatalf("Good(%x, %d): %t", p, e, got)
		}
	}
	for range 3000 {
		p := api.Nat{next()>>(next()>>8%64) | 1}
		for _, e := range exponents[:8] {
			ask(p, e)
		}
		ask(p, next()>>(next()>>8%64))
		ask(p, exponents[next()>>8%uint64(len(exponents))])
	}
}

// nextPassing is the first number from x on that no prime up to 1000 divides.
func nextPassing(x api.Nat, primes []uint64) api.Nat {
	x = slices.Clone(x)
	for x[0] = x[0]>>20<<20 | 1; !plainPasses(x, primes); x[0] += 2 {
	}
	return x
}

// P18.2 of numbers of some and of many words, above and below what other calls take.
func TestGoodOfMany(t *testing.T) {
	next := spread(6)
	primes := smallPrimes()
	for _, words := range []int{1, 2, 3, 4, 8, 64, 65, 130, 131, 299, 300, 301, 320} {
		p := nextPassing(someWords(next, words), primes)
		both := [2]int{}
		for _, e := range append(slices.Clone(exponents), primes[1:30]...) {
			want := e > 0 && greatestDivisor(e, slowRest(less(p, 1), api.Nat{e})[0]) == 1
			askGood(t, p, e, want)
			if want {
				both[1]++
			} else {
				both[0]++
			}
		}
		if both[0] == 0 || both[1] == 0 {
			t.Errorf("of %d words all answers are the same", words)
		}
		askGood(t, less(p, 1), 3, false)
	}
}

// P18.2: a p - 1 that a great e divides, or has a part of e, or nothing.
func TestGoodOfMultiples(t *testing.T) {
	primes := smallPrimes()
	for _, e := range []uint64{3, 5, 17, 257, 65537, 1<<31 - 1, 1<<32 + 15, 1<<61 - 1, top - 58, top} {
		found := 0
		for factor := uint64(2); found < 5; factor += 2 {
			p := slowMul(api.Nat{e, 0}, api.Nat{factor, 1})
			p[0]++
			if !plainPasses(p, primes) {
				continue
			}
			found++
			askGood(t, p, e, false)
			askGood(t, p, 1, true)
			askGood(t, p, 2, false)
			for _, other := range []uint64{7, 11, 1009, 1<<19 - 1} {
				askGood(t, p, other, slowRest(less(p, 1), api.Nat{other})[0] != 0)
			}
		}
	}
}

// P2: p stands in a list with more around it, of which nothing is read or written.
func TestGoodLeavesAll(t *testing.T) {
	for _, p := range []api.Nat{nil, {0}, {1}, {2}, {23}, {31}, {1009 * 1009}, {1, 1}, {1, 1, 0}, ones(127, 1), full(5)} {
		for _, e := range exponents {
			want := plainGood(p, e, smallPrimes())
			for _, beside := range []uint64{0, 1, top} {
				room := slices.Repeat(api.Nat{beside}, len(p)+40)
				copy(room[20:], p)
				before := slices.Clone(room)
				if got := prime.Good(room[20:20+len(p)], e); got != want {
					t.Errorf("Good(%x, %d) with %x beside it: %t", p, e, beside, got)
				}
				if !slices.Equal(room, before) {
					t.Fatalf("%x or what is beside it is changed", p)
				}
			}
		}
	}
}
