package ring_test

import (
	"slices"
	"testing"

	"sconce/api"
	"sconce/mont"
	"sconce/ring"
	"sconce/trace"
)

const top = uint64(1<<64 - 1)

// full has n words, all of them ones.
func full(n int) api.Nat {
	return slices.Repeat(api.Nat{top}, n)
}

// single has n words, of which all but the one at a place are 0.
func single(n, place int, w uint64) api.Nat {
	x := make(api.Nat, n)
	x[place] = w
	return x
}

// mixture has n words that are spread, others for each seed.
func mixture(n int, seed uint64) api.Nat {
	x := make(api.Nat, n)
	w := 0x9e3779b97f4a7c15 * (2*seed + 1)
	for i := range x {
		w ^= w << 13
		w ^= w >> 7
		w ^= w << 17
		x[i] = w
	}
	return x
}

// with is x with another word at a place.
func with(x api.Nat, place int, w uint64) api.Nat {
	x = slices.Clone(x)
	x[place] = w
	return x
}

// behindNoughts is x with so many noughts at its top.
func behindNoughts(x api.Nat, many int) api.Nat {
	return append(slices.Clone(x), make(api.Nat, many)...)
}

// odds are odd numbers of just n words: the greatest, the least (of one word: 3), and some whose double has a bit above their words and whose double hasn't.
func odds(n int) []api.Nat {
	least := with(single(n, n-1, 1), 0, 1)
	if n == 1 {
		least = api.Nat{3}
	}
	return []api.Nat{
		full(n),
		least,
		with(full(n), n-1, top>>1),
		with(single(n, n-1, 1<<63), 0, 1<<63|1),
		with(mixture(n, 1), 0, 5|mixture(n, 1)[0]),
		with(mixture(n, 2), n-1, 99),
	}
}

// set sets m up, which has to be let; an even number is made odd.
func set(t *testing.T, m api.Nat) api.Modulus {
	t.Helper()
	out, e := mont.Setup(with(m, 0, m[0]|1))
	if e != api.OK {
		t.Fatalf("Setup(%x): %d", m, e)
	}
	return out
}

// moduli goes through some moduli, with some members of each.
func moduli(t *testing.T, each func(m api.Modulus, members []api.Nat)) {
	t.Helper()
	list := []api.Nat{{5}, {7}, {9}, {101}, {1<<32 + 1}}
	for n := 1; n < 6; n++ {
		list = append(list, odds(n)...)
	}
	list = append(list, odds(api.MaxModulus)[:3]...)
	for _, x := range list {
		m := set(t, x)
		each(m, membersOf(m.M))
	}
}

// membersOf are 0, 1, m - 1, m - 2, both sides of its half, and some in between.
func membersOf(m api.Nat) []api.Nat {
	n := len(m)
	half := slowHalf(m)
	list := []api.Nat{make(api.Nat, n), single(n, 0, 1), with(m, 0, m[0]-1), less(m, single(n, 0, 2)), half, less(m, half)}
	for seed := range uint64(2) {
		list = append(list, slowRest(mixture(n, 7+seed), m))
	}
	if n > 1 {
		list = append(list, single(n, 0, top), with(m, n-1, 0), with(m, n-1, m[n-1]-1))
	}
	return list
}

// strangersTo are no members of m: too short, too long, not below it.
func strangersTo(m api.Nat) []api.Nat {
	n := len(m)
	list := []api.Nat{nil, {}, make(api.Nat, n-1), full(n - 1), make(api.Nat, n+1), single(n+1, 0, 1), behindNoughts(m, 1), full(n + 1), make(api.Nat, 301)}
	return append(list, reaching(m)...)
}

// reaching are as long as m, but not below it.
func reaching(m api.Nat) []api.Nat {
	list := []api.Nat{slices.Clone(m), full(len(m))}
	if m[0] != top {
		list = append(list, with(m, 0, m[0]+1))
	}
	return list
}

// wrong are moduli that differ from m, Setup's answer, in M, in K or in RR: in a word or in a length.
func wrong(m api.Modulus) []api.Modulus {
	n := len(m.M)
	list := []api.Modulus{
		{M: with(m.M, 0, m.M[0]^1), K: m.K, RR: m.RR},
		{M: with(m.M, n-1, m.M[n-1]^2), K: m.K, RR: m.RR},
		{M: make(api.Nat, n), K: m.K, RR: m.RR},
		{M: single(n, 0, 1), K: top, RR: m.RR},
		{M: m.M, K: m.K ^ 1, RR: m.RR},
		{M: m.M, K: m.K ^ 1<<63, RR: m.RR},
		{M: m.M, K: 0, RR: m.RR},
		{M: m.M, K: m.K, RR: with(m.RR, 0, m.RR[0]^1)},
		{M: m.M, K: m.K, RR: with(m.RR, n-1, m.RR[n-1]^1<<63)},
		{M: m.M, K: m.K, RR: make(api.Nat, n)},
		{M: m.M, K: m.K, RR: m.M},
	}
	return append(list,
		api.Modulus{M: behindNoughts(m.M, 1), K: m.K, RR: behindNoughts(m.RR, 1)},
		api.Modulus{M: behindNoughts(m.M, 1), K: m.K, RR: m.RR},
		api.Modulus{M: m.M, K: m.K, RR: behindNoughts(m.RR, 1)},
		api.Modulus{M: m.M[:n-1], K: m.K, RR: m.RR},
		api.Modulus{M: m.M, K: m.K, RR: m.RR[:n-1]},
		api.Modulus{M: m.M, K: m.K},
		api.Modulus{K: m.K, RR: m.RR})
}

// bogus are moduli that nobody set up, of no words and of too many among them.
func bogus() []api.Modulus {
	const n = api.MaxModulus
	return []api.Modulus{
		{},
		{M: api.Nat{}, RR: api.Nat{}},
		{K: 1},
		{M: api.Nat{0}, RR: api.Nat{0}},
		{M: api.Nat{1}, K: top, RR: api.Nat{0}},
		{M: api.Nat{7, 0}, K: 0x9249249249249249, RR: api.Nat{2, 0}},
		{M: api.Nat{7}, K: 0x9249249249249249, RR: api.Nat{11}},
		{M: api.Nat{8}, RR: api.Nat{0}},
		{M: api.Nat{0, 1}, K: 1, RR: api.Nat{0, 0}},
		{M: full(n + 1), K: 1, RR: single(n+1, 0, 1)},
		{M: full(300), K: 1, RR: single(300, 0, 1)},
		{M: full(301), K: 1, RR: single(301, 0, 1)},
		{M: full(50000), K: 1, RR: single(50000, 0, 1)},
		{M: full(2), K: 1, RR: full(50000)},
	}
}

// call is one of the calls of the chapter: whether it takes two operands (else no b), and any numbers (else members alone).
type call struct {
	name string
	two  bool
	any  bool
	do   func(tr *trace.Trace, m api.Modulus, a, b api.Nat) (api.Nat, api.Errno)
}

// calls are all of the chapter's, in its order.
func calls() []call {
	one := func(f func(*trace.Trace, api.Modulus, api.Nat) (api.Nat, api.Errno)) func(*trace.Trace, api.Modulus, api.Nat, api.Nat) (api.Nat, api.Errno) {
		return func(tr *trace.Trace, m api.Modulus, a, b api.Nat) (api.Nat, api.Errno) { return f(tr, m, a) }
	}
	return []call{
		{name: "Reduce", any: true, do: one(ring.Reduce)},
		{name: "Add", two: true, do: ring.Add},
		{name: "Sub", two: true, do: ring.Sub},
		{name: "Neg", do: one(ring.Neg)},
		{name: "Half", do: one(ring.Half)},
		{name: "Mul", two: true, do: ring.Mul},
	}
}

// must is the number that a call answers, which has to be a member.
func must(t *testing.T, c call, m api.Modulus, a, b api.Nat) api.Nat {
	t.Helper()
	got, e := c.do(nil, m, a, b)
	if e != api.OK || len(got) != len(m.M) || !below(got, m.M) {
		t.Fatalf("%s(%x, %x, %x): %x, %d", c.name, m.M, a, b, got, e)
	}
	return got
}

// refused asks that a call answers an error, and no number.
func refused(t *testing.T, c call, m api.Modulus, a, b api.Nat, want api.Errno) {
	t.Helper()
	if got, e := c.do(nil, m, a, b); e != want || len(got) != 0 {
		t.Errorf("%s(%x, %x, %x): %x, %d, not %d", c.name, m, a, b, got, e, want)
	}
}

// digitsOf are the digits of x at base 2^16, the lowest ahead.
func digitsOf(x api.Nat) []uint64 {
	var list []uint64
	for _, w := range x {
		list = append(list, w&0xffff, w>>16&0xffff, w>>32&0xffff, w>>48)
	}
	return list
}

// ofDigits is the number of n words that has these digits, of which each may be greater than the base.
func ofDigits(sums []uint64, n int) api.Nat {
	x := make(api.Nat, n)
	var carry uint64
	for i, s := range sums {
		carry += s
		x[i/4] |= carry & 0xffff << (16 * (i % 4))
		carry >>= 16
	}
	return x
}

// slowSum is a + b, which are of one length, in a word more.
func slowSum(a, b api.Nat) api.Nat {
	sums := make([]uint64, 4*(len(a)+1))
	for _, x := range []api.Nat{a, b} {
		for i, d := range digitsOf(x) {
			sums[i] += d
		}
	}
	return ofDigits(sums, len(a)+1)
}

// slowHalf is x, one bit down.
func slowHalf(x api.Nat) api.Nat {
	out := make(api.Nat, len(x))
	for i := range 64*len(x) - 1 {
		out[i/64] |= x[(i+1)/64] >> ((i + 1) % 64) & 1 << (i % 64)
	}
	return out
}

// slowMul is a b in as many words as both together.
func slowMul(a, b api.Nat) api.Nat {
	sums := make([]uint64, 4*(len(a)+len(b)))
	for i, d := range digitsOf(a) {
		for j, e := range digitsOf(b) {
			sums[i+j] += d * e
		}
	}
	return ofDigits(sums, len(a)+len(b))
}

// slowRest is x modulo m in m's length: it doubles and takes away.
func slowRest(x, m api.Nat) api.Nat {
	rest := make(api.Nat, len(m))
	for i := 64*len(x) - 1; i >= 0; i-- {
		over := x[i/64] >> (i % 64) & 1
		for j, w := range rest {
			rest[j], over = w<<1|over, w>>63
		}
		if over == 1 || !below(rest, m) {
			rest = less(rest, m)
		}
	}
	return rest
}

// less is a - b in their length.
func less(a, b api.Nat) api.Nat {
	out := make(api.Nat, len(a))
	var borrow uint64
	for i, w := range b {
		out[i] = a[i] - w - borrow
		if a[i] < w || a[i] == w && borrow == 1 {
			borrow = 1
		} else {
			borrow = 0
		}
	}
	return out
}

// below says whether a is below b, which is as long.
func below(a, b api.Nat) bool {
	for i := len(a) - 1; i >= 0; i-- {
		if a[i] != b[i] {
			return a[i] < b[i]
		}
	}
	return false
}
