package miller_test

import (
	"slices"
	"testing"

	"sconce/api"
	"sconce/miller"
)

// askStrong asks what Strong says.
func askStrong(t *testing.T, n, base api.Nat, want bool) {
	t.Helper()
	if is, e := miller.Strong(n, base); is != want || e != api.OK {
		t.Errorf("Strong of %d words and %d (%x, %x): %t, error %d, not %t", len(n), len(base), cut(n), cut(base), is, e, want)
	}
}

// askNotStrong asks that a number or a base is refused with an error, and no yes beside it.
func askNotStrong(t *testing.T, n, base api.Nat, want api.Errno) {
	t.Helper()
	if is, e := miller.Strong(n, base); is || e != want {
		t.Errorf("Strong of %d words and %d (%x, %x): %t, error %d, not %d", len(n), len(base), cut(n), cut(base), is, e, want)
	}
}

// askAsPlain asks that Strong says what the chapter's words come to.
func askAsPlain(t *testing.T, n, base api.Nat) {
	t.Helper()
	want, wrong := plainStrong(n, base)
	if is, e := miller.Strong(n, base); is != want || e != wrong {
		t.Errorf("Strong(%x, %x): %t, error %d, not %t, error %d", n, base, is, e, want, wrong)
	}
}

// basesOf are some bases from 2 to n - 2, n having no noughts at its top.
func basesOf(n api.Nat) []api.Nat {
	words := len(n)
	last := less(n, 1)
	var list []api.Nat
	for _, base := range []api.Nat{{2}, {3}, {4}, {7}, {11}, {top}, single(words, words-1, 1), less(n, 2), less(n, 3), slowRest(mixture(words, 1), n), slowRest(mixture(words, 2), n), slowRest(mixture(1, 3), n)} {
		if below(api.Nat{1}, base) && below(base, last) {
			list = append(list, base)
		}
	}
	return list
}

// The chapter's examples.
func TestStrongExamples(t *testing.T) {
	askStrong(t, api.Nat{9}, api.Nat{2}, false)
	askStrong(t, api.Nat{2047}, api.Nat{2}, true)
}

// P17.1 of numbers whose answers are known: to these bases they pass, to those they don't.
func TestStrongPseudoprimes(t *testing.T) {
	for _, c := range []struct {
		n       api.Nat
		yes, no []uint64
	}{
		{api.Nat{25}, []uint64{7, 18}, []uint64{2, 3, 4, 5, 6, 8, 17, 19, 20, 22, 23}},
		{api.Nat{49}, []uint64{18, 19, 30, 31}, []uint64{2, 7, 17, 20, 29, 32, 47}},
		{api.Nat{65}, []uint64{8, 18, 47, 57}, []uint64{2, 5, 9, 13, 17, 46, 63}},
		{api.Nat{2047}, []uint64{2, 4, 8, 11, 1024}, []uint64{3, 5, 7, 13, 23, 89}},
		{api.Nat{1373653}, []uint64{2, 3, 6, 9, 17}, []uint64{5, 7, 11, 13, 23}},
		{api.Nat{25326001}, []uint64{2, 3, 5, 30}, []uint64{7, 11, 13, 17}},
		{api.Nat{3215031751}, []uint64{2, 3, 5, 7, 19, 37, 210}, []uint64{11, 13, 17, 23, 29, 31}},
		{api.Nat{341550071728321}, []uint64{2, 3, 5, 7, 11, 13, 17, 19}, []uint64{23, 29, 31, 37}},
		{api.Nat{3825123056546413051}, []uint64{2, 3, 5, 7, 11, 13, 17, 19, 23, 29, 31}, []uint64{37, 41, 43}},
		{api.Nat{0xe92817f9fc85b7e5, 0x437a}, []uint64{2, 3, 5, 7, 11, 13, 17, 19, 23, 29, 31, 37}, []uint64{41, 43}},
		{api.Nat{0x51adc5b22410a5fd, 0x2be69}, []uint64{2, 3, 5, 7, 11, 13, 17, 19, 23, 29, 31, 37, 41}, []uint64{43}},
		{ones(67), []uint64{2, 4, 1 << 63}, []uint64{3, 5, 7}},
		{api.Nat{1, 1}, []uint64{2, 8, 1 << 33}, []uint64{3, 5, 7}},
		{api.Nat{1, 0, 0, 0, 1}, []uint64{2, 8, 1 << 63}, []uint64{3, 5, 7}},
	} {
		for more := range 3 {
			for _, base := range c.yes {
				askStrong(t, longer(c.n, more), longer(api.Nat{base}, more), true)
			}
			for _, base := range c.no {
				askStrong(t, longer(c.n, more), longer(api.Nat{base}, more), false)
			}
		}
	}
}

// P17.1: an n that may not be has its error whatever the base is.
func TestStrongOfWrongNumbers(t *testing.T) {
	bases := []api.Nat{nil, {}, {0}, {1}, {2}, {3}, {5}, {2, 0}, {top}, {0, 1}, full(130), full(301), make(api.Nat, 1000)}
	for _, n := range []api.Nat{nil, {}, {0}, {1}, {2}, {3}, {4}, {6}, {8}, {96}, {1 << 63}, {top - 1}, {0, 1}, {2, 1}, {top - 1, top}, {0, 0, 1 << 63}, with(full(130), 0, top-1), single(130, 129, 1)} {
		for _, more := range []int{0, 1, 2, 130, 131, 300, 1000} {
			for _, base := range bases {
				askNotStrong(t, longer(n, more), base, api.ErrRange)
			}
		}
	}
}

// P17.1: too long is what has more than MaxModulus words that count; that goes ahead of all else.
func TestStrongOfTooLong(t *testing.T) {
	for _, n := range []api.Nat{full(131), single(131, 130, 1), with(single(131, 130, 1), 0, 1), with(full(131), 0, top-1), full(132), full(300), full(301), single(301, 300, 1<<63), full(1000), ones(9689)} {
		for _, more := range []int{0, 1, 200, 1000} {
			for _, base := range []api.Nat{nil, {}, {0}, {1}, {2}, {3}, less(full(131), 1), full(131), full(301), full(2000)} {
				askNotStrong(t, longer(n, more), base, api.ErrLong)
			}
		}
	}
}

// P17.1: no base is 0, 1, n - 1, n or above, in whatever length.
func TestStrongOfWrongBases(t *testing.T) {
	numbers := slices.Concat(primes(), products(), []api.Nat{full(130), greatPrime(), with(single(130, 129, 1), 0, 1)})
	for _, n := range numbers {
		last := less(n, 1)
		wrong := []api.Nat{nil, {}, {0}, {1}, last, n, full(len(n) + 1), single(len(n)+1, len(n), 1), append(slices.Clone(n), 1), append(api.Nat{0}, n...), full(131), full(301), full(1000), single(301, 300, 1)}
		if n[0] != top {
			wrong = append(wrong, with(n, 0, n[0]+1), with(n, 0, top))
		}
		for _, base := range wrong {
			askNotStrong(t, n, base, api.ErrRange)
			askNotStrong(t, longer(n, 1), base, api.ErrRange)
			askNotStrong(t, n, longer(base, 1), api.ErrRange)
			askNotStrong(t, longer(n, 301), longer(base, 1000), api.ErrRange)
		}
	}
}

// P17.1: n and base are numbers, whatever their lengths.
func TestStrongInLengths(t *testing.T) {
	for _, c := range []struct {
		n, base api.Nat
		want    bool
	}{
		{api.Nat{5}, api.Nat{2}, true}, {api.Nat{5}, api.Nat{3}, true}, {api.Nat{7}, api.Nat{5}, true}, {api.Nat{9}, api.Nat{7}, false}, {api.Nat{9}, api.Nat{2}, false},
		{api.Nat{97}, api.Nat{95}, true}, {api.Nat{2047}, api.Nat{2}, true}, {api.Nat{2047}, api.Nat{2045}, true}, {api.Nat{2047}, api.Nat{3}, false},
		{api.Nat{1, 1}, api.Nat{2}, true}, {api.Nat{1, 1}, api.Nat{top}, true}, {api.Nat{1, 1}, api.Nat{3}, false}, {ones(127), api.Nat{2}, true}, {ones(127), api.Nat{5, 7}, true}, {ones(67), api.Nat{top - 2, 7}, true}, {ones(67), api.Nat{0, 7}, false},
	} {
		for _, more := range []int{0, 1, 2, 129, 130, 131, 299, 300, 301, 1000} {
			askStrong(t, longer(c.n, more), c.base, c.want)
			askStrong(t, c.n, longer(c.base, more), c.want)
			askStrong(t, longer(c.n, more), longer(c.base, more), c.want)
			askStrong(t, longer(c.n, 1000), longer(c.base, more), c.want)
		}
	}
}

// P17.1, P17.3 of all small numbers with all bases: a prime passes to each, another odd number to at most a quarter of them.
func TestStrongOfEach(t *testing.T) {
	for n := uint64(5); n < 800; n += 2 {
		passed := uint64(0)
		for base := uint64(2); base <= n-2; base++ {
			want := plainStrongOfWord(n, base)
			askStrong(t, api.Nat{n}, api.Nat{base}, want)
			if want {
				passed++
			}
		}
		if all := n - 3; isPrime(n) && passed != all || !isPrime(n) && 4*passed > all {
			t.Errorf("%d passes to %d of %d bases", n, passed, all)
		}
		for _, base := range []uint64{0, 1, n - 1, n, n + 1, n + 2, 2 * n, top} {
			askNotStrong(t, api.Nat{n}, api.Nat{base}, api.ErrRange)
		}
		for base := range n + 2 {
			askNotStrong(t, api.Nat{n - 1}, api.Nat{base}, api.ErrRange)
		}
	}
}

// P17.1: the squares are those of the chapter, the one that is n - 1 standing at each place of them.
func TestStrongAtEachSquare(t *testing.T) {
	// Modulo 2^e + 1 squares of 2 are powers of 2 that come to n - 1, which is 2^e, just if e is a power of 2.
	for e := 2; e < 200; e++ {
		askStrong(t, proth(1, e), api.Nat{2}, e&(e-1) == 0)
	}
	for last := 1; last < 11; last++ {
		n := proth(1, 1<<last)
		for place := range last {
			askStrong(t, n, less(proth(1, 1<<place), 1), true)
		}
	}
	// 5 is no square modulo this prime, so that it is its last square here that is n - 1, and of each square of it an earlier one.
	n := proth(3, 41)
	base := api.Nat{5}
	for range 45 {
		askStrong(t, n, base, true)
		askAsPlain(t, n, base)
		base = slowRest(slowMul(base, base), n)
	}
}

// P17.3
func TestStrongOfPrimes(t *testing.T) {
	for _, n := range primes() {
		for _, base := range basesOf(n) {
			askStrong(t, n, base, true)
			askStrong(t, longer(n, 1), longer(base, 2), true)
		}
		for start := range uint64(10) {
			if base := slowRest(mixture(len(n), start), n); below(api.Nat{1}, base) && below(base, less(n, 1)) {
				askStrong(t, n, base, true)
			}
		}
	}
}

// P17.1 of primes and products against the chapter's words.
func TestStrongAsPlain(t *testing.T) {
	for _, n := range slices.Concat(primes(), products()) {
		if len(n) > 5 {
			continue
		}
		for _, base := range basesOf(n) {
			askAsPlain(t, n, base)
		}
		for _, base := range []api.Nat{nil, {0}, {1}, less(n, 1), n, full(len(n) + 1)} {
			askAsPlain(t, n, base)
		}
	}
}

// P17.1 of numbers that are spread.
func TestStrongOfMixtures(t *testing.T) {
	next := spread(5)
	for round := range uint64(300) {
		n := mixture(1+int(next()>>8%3), round)
		n[len(n)-1] >>= next() >> 8 % 64
		base := mixture(1+int(next()>>8%3), round+1000)
		base[len(base)-1] >>= next() >> 8 % 64
		askAsPlain(t, n, base)
		// Odd, and with many twos.
		n[0] |= 1
		askAsPlain(t, n, base)
		n[0] &= ^uint64(0)<<(next()>>8%64) | 1
		askAsPlain(t, n, base)
	}
	for range 20000 {
		n, base := next()>>(next()>>8%61)|1, next()>>(next()>>8%61)
		if n <= 3 || base < 2 || base > n-2 {
			askAsPlain(t, api.Nat{n}, api.Nat{base})
			continue
		}
		askStrong(t, api.Nat{n}, api.Nat{base}, plainStrongOfWord(n, base))
	}
}

// P17.1 of just MaxModulus words and nearly so many.
func TestStrongOfMostWords(t *testing.T) {
	prime := greatPrime()
	if len(prime) != api.MaxModulus {
		t.Fatalf("%d words", len(prime))
	}
	askStrong(t, prime, api.Nat{2}, true)
	askStrong(t, longer(prime, 1), mixture(129, 1), true)
	askStrong(t, longer(prime, 900), longer(less(prime, 2), 7), true)
	// 2 passes of each 2^p - 1, p being a prime, also if that is none.
	askStrong(t, ones(8317), api.Nat{2}, true)
	askStrong(t, longer(ones(8317), 171), api.Nat{3}, false)
	// 2^(2^13) + 1 has 129 words; its twos are all of n - 1.
	fermat := proth(1, 1<<13)
	askStrong(t, fermat, api.Nat{2}, true)
	askStrong(t, fermat, longer(api.Nat{1 << 5}, 300), true)
	askStrong(t, fermat, api.Nat{3}, false)
	askStrong(t, full(130), api.Nat{2}, false)
}

// P2: n and base stand in lists with more around them, of which nothing is read or written.
func TestStrongLeavesAll(t *testing.T) {
	for _, n := range slices.Concat(products(), []api.Nat{{97, 0, 0}, {2047, 0}, {3}, {8}, {0, 0}, full(131), longer(api.Nat{9}, 200)}) {
		for _, base := range []api.Nat{nil, {1}, {2}, {3, 0}, {7, 1}, {0, 0, 1}, full(2)} {
			want, wrong := miller.Strong(slices.Clip(slices.Clone(n)), slices.Clip(slices.Clone(base)))
			for _, beside := range []uint64{0, 1, 2, top} {
				room := slices.Repeat(api.Nat{beside}, len(n)+len(base)+60)
				number := room[20 : 20+len(n)]
				copy(number, n)
				other := room[40+len(n) : 40+len(n)+len(base)]
				copy(other, base)
				before := slices.Clone(room)
				if is, e := miller.Strong(number, other); is != want || e != wrong {
					t.Errorf("Strong(%x, %x) beside %x: %t, error %d, not %t, error %d", n, base, beside, is, e, want, wrong)
				}
				if !slices.Equal(room, before) {
					t.Fatalf("%x, %x or what is beside them is changed", n, base)
				}
			}
		}
	}
}

// P2: n and base may be one list, or pieces of one.
func TestStrongOfOneList(t *testing.T) {
	x := api.Nat{2047, 5, 0, 2}
	before := slices.Clone(x)
	askNotStrong(t, x[:1], x[:1], api.ErrRange)
	askAsPlain(t, x[:2], x[:1])
	askAsPlain(t, x, x[1:2])
	askStrong(t, x[:1], x[3:], true)
	askStrong(t, x[:1], x[1:3], false)
	if !slices.Equal(x, before) {
		t.Errorf("%x, not %x", x, before)
	}
}

// P3: answers hang on arguments alone, also behind other calls.
func TestStrongIsAlone(t *testing.T) {
	for range 3 {
		askStrong(t, api.Nat{2047}, api.Nat{2}, true)
		askNotStrong(t, api.Nat{8}, api.Nat{3}, api.ErrRange)
		askStrong(t, api.Nat{2047}, api.Nat{3}, false)
		askNotStrong(t, full(131), api.Nat{3}, api.ErrLong)
		askStrong(t, api.Nat{1, 1}, api.Nat{2}, true)
		askNotStrong(t, api.Nat{97}, api.Nat{96}, api.ErrRange)
		askStrong(t, api.Nat{9}, api.Nat{2}, false)
	}
}
