package inverse_test

import (
	"slices"
	"testing"

	"sconce/api"
	"sconce/mont"
)

const top = uint64(1<<64 - 1)

// full has n words, all of them ones.
func full(n int) api.Nat {
	return slices.Repeat(api.Nat{top}, n)
}

// single has n words, of which all but the one at a place are 0.
func single(n, place int, w uint64) api.Nat {
	x := make(api.Nat, n)
	x[place] = w
	return x
}

// mixture has n words that are spread, others for each seed.
func mixture(n int, seed uint64) api.Nat {
	x := make(api.Nat, n)
	w := 0x9e3779b97f4a7c15 * (2*seed + 1)
	for i := range x {
		w ^= w << 13
		w ^= w >> 7
		w ^= w << 17
		x[i] = w
	}
	return x
}

// with is x with another word at a place.
func with(x api.Nat, place int, w uint64) api.Nat {
	x = slices.Clone(x)
	x[place] = w
	return x
}

// behindNoughts is x with so many noughts at its top.
func behindNoughts(x api.Nat, many int) api.Nat {
	return append(slices.Clone(x), make(api.Nat, many)...)
}

// odds are odd numbers of just n words: the greatest, the least (of one word: 3), and some in between.
func odds(n int) []api.Nat {
	least := with(single(n, n-1, 1), 0, 1)
	if n == 1 {
		least = api.Nat{3}
	}
	return []api.Nat{
		full(n),
		least,
		with(single(n, n-1, 1<<63), 0, 1<<63|1),
		with(mixture(n, 1), 0, 5|mixture(n, 1)[0]),
	}
}

// set sets m up, which has to be let; an even number is made odd.
func set(t *testing.T, m api.Nat) api.Modulus {
	t.Helper()
	out, e := mont.Setup(with(m, 0, m[0]|1))
	if e != api.OK {
		t.Fatalf("Setup(%x): %d", m, e)
	}
	return out
}

// mersenne is 2 to the power of so many bits, less 1.
func mersenne(bits int) api.Nat {
	x := full((bits + 63) / 64)
	if bits%64 > 0 {
		x[len(x)-1] = 1<<(bits%64) - 1
	}
	return x
}

// primes are primes of one word and of several.
func primes() []api.Nat {
	return []api.Nat{{3}, {7}, {101}, {1000003}, mersenne(61), {top - 58}, mersenne(127), {top - 18, top, top, top >> 1}, mersenne(521)}
}

// composites are odd numbers that have divisors, each with one of those that isn't the number.
func composites() [][2]api.Nat {
	list := [][2]api.Nat{
		{{9}, {3}}, {{15}, {5}}, {{105}, {21}}, {{1000003 * 3}, {1000003}}, {full(1), {641}}, {full(1), {1<<32 - 1}}, {{1, 1}, {274177, 0}}, {full(2), {1, 1}}, {full(3), {top, 0, 0}}, {full(5), {5, 0, 0, 0, 0}},
	}
	list = append(list, [2]api.Nat{slowMul(mersenne(61), api.Nat{top - 58}), {top - 58, 0}})
	square := slowMul(mersenne(127), mersenne(127))
	return append(list, [2]api.Nat{square, behindNoughts(mersenne(127), 2)})
}

// moduli goes through some moduli of few words, primes and others, with some members of each.
func moduli(t *testing.T, each func(m api.Modulus, members []api.Nat)) {
	t.Helper()
	list := primes()
	for _, c := range composites() {
		list = append(list, c[0])
	}
	for n := 1; n < 5; n++ {
		list = append(list, odds(n)...)
	}
	for _, x := range list {
		m := set(t, x)
		each(m, membersOf(m.M))
	}
}

// membersOf are 0, 1, 2 and m - 1, what stands beside them, and some in between.
func membersOf(m api.Nat) []api.Nat {
	n := len(m)
	list := []api.Nat{make(api.Nat, n), single(n, 0, 1), single(n, 0, 2), with(m, 0, m[0]-1), less(m, single(n, 0, 2))}
	for seed := range uint64(4) {
		list = append(list, slowRest(mixture(n, 7+seed), m))
	}
	if n > 1 {
		list = append(list, single(n, 0, top), single(n, 1, 1), with(m, n-1, m[n-1]-1), with(m, n-1, 0))
	}
	return list
}

// operands are numbers whose divisors are asked: of no words, of few, with noughts at their top and at their bottom.
func operands() []api.Nat {
	list := []api.Nat{nil, {}, {0}, {1}, {2}, {36}, {84, 0}, {top}, {1 << 63}, {top - 1}, {0, 0}, {1, 0}, {6, 0, 0}, {0, 1}, {1, 1}, {0, 12}, full(2), {0, 0, 1}, {0, 0, 0}, full(3), {0, top, 0}}
	shared := mixture(1, 5)
	for seed := range uint64(3) {
		list = append(list, mixture(2, seed), slowMul(shared, mixture(1, seed)), slowMul(api.Nat{0, 6}, mixture(1, seed)))
	}
	return append(list, mixture(3, 1), behindNoughts(mixture(1, 2), 2), slowMul(shared, shared))
}

// strangersTo are no members of m: too short, too long, not below it.
func strangersTo(m api.Nat) []api.Nat {
	n := len(m)
	list := []api.Nat{nil, {}, make(api.Nat, n-1), full(n - 1), make(api.Nat, n+1), single(n+1, 0, 1), behindNoughts(m, 1), full(n + 1), make(api.Nat, 301), slices.Clone(m), full(n)}
	if m[0] != top {
		list = append(list, with(m, 0, m[0]+1))
	}
	return list
}

// wrong are moduli that differ from m, Setup's answer, in M, in K or in RR: in a word or in a length.
func wrong(m api.Modulus) []api.Modulus {
	n := len(m.M)
	list := []api.Modulus{
		{M: with(m.M, 0, m.M[0]^1), K: m.K, RR: m.RR},
		{M: with(m.M, n-1, m.M[n-1]^2), K: m.K, RR: m.RR},
		{M: make(api.Nat, n), K: m.K, RR: m.RR},
		{M: single(n, 0, 1), K: top, RR: m.RR},
		{M: m.M, K: m.K ^ 1, RR: m.RR},
		{M: m.M, K: m.K ^ 1<<63, RR: m.RR},
		{M: m.M, K: 0, RR: m.RR},
		{M: m.M, K: m.K, RR: with(m.RR, 0, m.RR[0]^1)},
		{M: m.M, K: m.K, RR: with(m.RR, n-1, m.RR[n-1]^1<<63)},
		{M: m.M, K: m.K, RR: make(api.Nat, n)},
		{M: m.M, K: m.K, RR: m.M},
	}
	return append(list,
		api.Modulus{M: behindNoughts(m.M, 1), K: m.K, RR: behindNoughts(m.RR, 1)},
		api.Modulus{M: behindNoughts(m.M, 1), K: m.K, RR: m.RR},
		api.Modulus{M: m.M, K: m.K, RR: behindNoughts(m.RR, 1)},
		api.Modulus{M: m.M[:n-1], K: m.K, RR: m.RR},
		api.Modulus{M: m.M, K: m.K, RR: m.RR[:n-1]},
		api.Modulus{M: m.M, K: m.K},
		api.Modulus{K: m.K, RR: m.RR})
}

// bogus are moduli that nobody set up, of no words and of too many among them.
func bogus() []api.Modulus {
	const n = api.MaxModulus
	return []api.Modulus{
		{},
		{M: api.Nat{}, RR: api.Nat{}},
		{K: 1},
		{M: api.Nat{0}, RR: api.Nat{0}},
		{M: api.Nat{1}, K: top, RR: api.Nat{0}},
		{M: api.Nat{7, 0}, K: 0x9249249249249249, RR: api.Nat{2, 0}},
		{M: api.Nat{7}, K: 0x9249249249249249, RR: api.Nat{11}},
		{M: api.Nat{8}, RR: api.Nat{0}},
		{M: api.Nat{0, 1}, K: 1, RR: api.Nat{0, 0}},
		{M: full(n + 1), K: 1, RR: single(n+1, 0, 1)},
		{M: full(300), K: 1, RR: single(300, 0, 1)},
		{M: full(301), K: 1, RR: single(301, 0, 1)},
		{M: full(50000), K: 1, RR: single(50000, 0, 1)},
		{M: full(2), K: 1, RR: full(50000)},
	}
}

// digitsOf are the digits of x at base 2^16, the lowest ahead.
func digitsOf(x api.Nat) []uint64 {
	var list []uint64
	for _, w := range x {
		list = append(list, w&0xffff, w>>16&0xffff, w>>32&0xffff, w>>48)
	}
	return list
}

// ofDigits is the number of n words that has these digits, of which each may be greater than the base.
func ofDigits(sums []uint64, n int) api.Nat {
	x := make(api.Nat, n)
	var carry uint64
	for i, s := range sums {
		carry += s
		x[i/4] |= carry & 0xffff << (16 * (i % 4))
		carry >>= 16
	}
	return x
}

// slowSum is a + b in a word more than the longer one has.
func slowSum(a, b api.Nat) api.Nat {
	n := max(len(a), len(b)) + 1
	sums := make([]uint64, 4*n)
	for _, x := range []api.Nat{a, b} {
		for i, d := range digitsOf(x) {
			sums[i] += d
		}
	}
	return ofDigits(sums, n)
}

// slowMul is a b in as many words as both together.
func slowMul(a, b api.Nat) api.Nat {
	sums := make([]uint64, 4*(len(a)+len(b)))
	for i, d := range digitsOf(a) {
		for j, e := range digitsOf(b) {
			sums[i+j] += d * e
		}
	}
	return ofDigits(sums, len(a)+len(b))
}

// slowRest is x modulo m in m's length: it doubles and takes away.
func slowRest(x, m api.Nat) api.Nat {
	rest := make(api.Nat, len(m))
	for i := 64*len(x) - 1; i >= 0; i-- {
		over := x[i/64] >> (i % 64) & 1
		for j, w := range rest {
			rest[j], over = w<<1|over, w>>63
		}
		if over == 1 || !below(rest, m) {
			rest = less(rest, m)
		}
	}
	return rest
}

// slowDivisor is the greatest number that divides a and b, in the longer one's length.
func slowDivisor(a, b api.Nat) api.Nat {
	n := max(len(a), len(b))
	a, b = behindNoughts(a, n-len(a)), behindNoughts(b, n-len(b))
	for !isNumber(b, 0) {
		a, b = b, slowRest(a, b)
	}
	return a
}

// isNumber says whether x, of any length, is the number w.
func isNumber(x api.Nat, w uint64) bool {
	for i, here := range x {
		if i > 0 && here != 0 {
			return false
		}
	}
	return len(x) == 0 && w == 0 || len(x) > 0 && x[0] == w
}

// less is a - b in their length.
func less(a, b api.Nat) api.Nat {
	out := make(api.Nat, len(a))
	var borrow uint64
	for i, w := range b {
		out[i] = a[i] - w - borrow
		if a[i] < w || a[i] == w && borrow == 1 {
			borrow = 1
		} else {
			borrow = 0
		}
	}
	return out
}

// below says whether a is below b, which is as long.
func below(a, b api.Nat) bool {
	for i := len(a) - 1; i >= 0; i-- {
		if a[i] != b[i] {
			return a[i] < b[i]
		}
	}
	return false
}
