package miller_test

import (
	"math/bits"
	"slices"

	"sconce/api"
)

const top = uint64(1<<64 - 1)

// full has n words, all of them ones.
func full(n int) api.Nat {
	return slices.Repeat(api.Nat{top}, n)
}

// single has n words, of which all but the one at a place are 0.
func single(n, place int, w uint64) api.Nat {
	x := make(api.Nat, n)
	x[place] = w
	return x
}

// with is x with another word at a place.
func with(x api.Nat, place int, w uint64) api.Nat {
	x = slices.Clone(x)
	x[place] = w
	return x
}

// longer is x with noughts at its top.
func longer(x api.Nat, more int) api.Nat {
	return append(slices.Clone(x), make(api.Nat, more)...)
}

// cut is x without noughts at its top.
func cut(x api.Nat) api.Nat {
	for len(x) > 0 && x[len(x)-1] == 0 {
		x = x[:len(x)-1]
	}
	return x
}

// spread tells words that are spread, others for each start.
func spread(start uint64) func() uint64 {
	w := 0x9e3779b97f4a7c15 * (2*start + 1)
	return func() uint64 {
		w ^= w << 13
		w ^= w >> 7
		w ^= w << 17
		return w
	}
}

// mixture has n words that are spread.
func mixture(n int, start uint64) api.Nat {
	x := make(api.Nat, n)
	next := spread(start)
	for i := range x {
		x[i] = next()
	}
	return x
}

// ones is 2 to the power of many, less 1.
func ones(many int) api.Nat {
	x := full((many + 63) / 64)
	x[len(x)-1] >>= (64 - many%64) % 64
	return x
}

// proth is w times 2 to the power of e, and 1.
func proth(w uint64, e int) api.Nat {
	x := make(api.Nat, e/64+2)
	for i := range 64 {
		x[(e+i)/64] |= w >> i & 1 << ((e + i) % 64)
	}
	x[0] |= 1
	return cut(x)
}

// less is x less a word, in its length; x is not below it.
func less(x api.Nat, w uint64) api.Nat {
	out := slices.Clone(x)
	takeAway(out, longer(api.Nat{w}, len(x)-1))
	return out
}

// below says whether a is below b, whatever their lengths.
func below(a, b api.Nat) bool {
	a, b = cut(a), cut(b)
	if len(a) != len(b) {
		return len(a) < len(b)
	}
	for i := len(a) - 1; i >= 0; i-- {
		if a[i] != b[i] {
			return a[i] < b[i]
		}
	}
	return false
}

// digitsOf are the digits of x at base 2^16, the lowest ahead.
func digitsOf(x api.Nat) []uint64 {
	var list []uint64
	for _, w := range x {
		list = append(list, w&0xffff, w>>16&0xffff, w>>32&0xffff, w>>48)
	}
	return list
}

// slowMul is a b in as many words as both together, reckoned digit by digit.
func slowMul(a, b api.Nat) api.Nat {
	sums := make([]uint64, 4*(len(a)+len(b)))
	for i, d := range digitsOf(a) {
		for j, e := range digitsOf(b) {
			sums[i+j] += d * e
		}
	}
	x := make(api.Nat, len(a)+len(b))
	var carry uint64
	for i, s := range sums {
		carry += s
		x[i/4] |= carry & 0xffff << (16 * (i % 4))
		carry >>= 16
	}
	return x
}

// slowRest is x modulo m in m's length: it doubles and takes away.
func slowRest(x, m api.Nat) api.Nat {
	rest := make(api.Nat, len(m))
	for i := 64*len(x) - 1; i >= 0; i-- {
		over := x[i/64] >> (i % 64) & 1
		for j, w := range rest {
			rest[j], over = w<<1|over, w>>63
		}
		if over == 1 || !below(rest, m) {
			takeAway(rest, m)
		}
	}
	return rest
}

func takeAway(x, m api.Nat) {
	var borrow uint64
	for i, w := range m {
		x[i], borrow = bits.Sub64(x[i], w, borrow)
	}
}

// slowPower is a to the power of e modulo m, from the exponent's lowest bit on.
func slowPower(a, e, m api.Nat) api.Nat {
	out := single(len(m), 0, 1)
	square := slowRest(a, m)
	for i := range 64 * len(e) {
		if e[i/64]>>(i%64)&1 == 1 {
			out = slowRest(slowMul(out, square), m)
		}
		square = slowRest(slowMul(square, square), m)
	}
	return out
}

// halved is x without its lowest bit.
func halved(x api.Nat) api.Nat {
	out := make(api.Nat, len(x))
	for i := range 64*len(x) - 1 {
		out[i/64] |= x[(i+1)/64] >> ((i + 1) % 64) & 1 << (i % 64)
	}
	return out
}

// numberError is the error of n by the chapter's words.
func numberError(n api.Nat) api.Errno {
	n = cut(n)
	switch {
	case len(n) > api.MaxModulus:
		return api.ErrLong
	case len(n) == 0 || n[0]%2 == 0 || len(n) == 1 && n[0] <= 3:
		return api.ErrRange
	}
	return api.OK
}

// plainStrong is Strong by the chapter's words.
func plainStrong(n, base api.Nat) (bool, api.Errno) {
	n, base = cut(n), cut(base)
	if e := numberError(n); e != api.OK {
		return false, e
	}
	last := less(n, 1)
	if below(base, api.Nat{2}) || !below(base, last) {
		return false, api.ErrRange
	}
	odd, twos := last, 0
	for odd[0]%2 == 0 {
		odd, twos = halved(odd), twos+1
	}
	power := slowPower(base, odd, n)
	is := slices.Equal(power, single(len(n), 0, 1)) || slices.Equal(power, last)
	for range twos - 1 {
		power = slowRest(slowMul(power, power), n)
		is = is || slices.Equal(power, last)
	}
	return is, api.OK
}

// timesModulo is a b modulo n, of words.
func timesModulo(a, b, n uint64) uint64 {
	upper, lower := bits.Mul64(a, b)
	return bits.Rem64(upper, lower, n)
}

// plainStrongOfWord is the same of an odd n above 3 and a base from 2 to n - 2, both of one word.
func plainStrongOfWord(n, base uint64) bool {
	odd, twos := n-1, 0
	for odd%2 == 0 {
		odd, twos = odd/2, twos+1
	}
	power := uint64(1)
	for i := 63; i >= 0; i-- {
		power = timesModulo(power, power, n)
		if odd>>i&1 == 1 {
			power = timesModulo(power, base, n)
		}
	}
	is := power == 1 || power == n-1
	for range twos - 1 {
		power = timesModulo(power, power, n)
		is = is || power == n-1
	}
	return is
}

// isPrime goes by the definition.
func isPrime(n uint64) bool {
	for d := uint64(2); d*d <= n; d++ {
		if n%d == 0 {
			return false
		}
	}
	return n > 1
}

// primes are known ones above 3: with one two in n - 1, with several, with nearly all of its bits; of one word, of some, of many.
func primes() []api.Nat {
	return []api.Nat{
		{5}, {7}, {11}, {13}, {17}, {97}, {257}, {65537}, {1000003}, {1<<31 - 1}, {1<<61 - 1}, {top - 58},
		ones(89), ones(107), ones(127), ones(521),
		with(full(2), 0, top-158), with(full(3), 0, top-236), with(ones(255), 0, top-18), {51, 0, 1},
		proth(3, 41), proth(3, 66), proth(3, 189), proth(5, 127), proth(7, 120), proth(9, 63), proth(9, 65), proth(9, 67),
	}
}

// greatPrime has just MaxModulus words: 7 to the power of (n - 1) / 2 is n - 1, so by Proth's theorem it is one.
func greatPrime() api.Nat { return proth(19785, 8300) }

// products are odd numbers above 3 that are no primes, of all kinds that primes has.
func products() []api.Nat {
	return []api.Nat{
		{9}, {15}, {21}, {25}, {27}, {33}, {49}, {65}, {91}, {561}, {2047}, {1<<32 + 1}, {1<<32 - 1}, {1<<33 + 1}, {top}, {top - 2}, {1<<63 + 1}, {3215031751},
		{1, 1}, {3, 1}, {top, 1}, {top, top}, {1, 0, 1}, {1, 0, 0, 1}, {1, 0, 0, 0, 1}, {1, 1 << 63}, {1, 1 << 10}, {top, 0, 1},
		ones(67), ones(83), ones(101), full(3), full(4), proth(3, 64), proth(5, 128), proth(15, 100),
		slowMul(api.Nat{1<<61 - 1}, api.Nat{1<<61 - 1}), slowMul(api.Nat{1000003}, api.Nat{top - 58}), slowMul(ones(89), ones(107)),
	}
}
