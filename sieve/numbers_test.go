package sieve_test

import (
	"math/bits"

	"sconce/api"
)

const top = uint64(1<<64 - 1)

// isPrime goes by the definition: above 1, and nothing between 1 and it divides it.
func isPrime(n int) bool {
	for d := 2; d < n; d++ {
		if n%d == 0 {
			return false
		}
	}
	return n > 1
}

// plainPrimes are the primes from one number up to another, asked one by one.
func plainPrimes(from, to int) []int {
	var list []int
	for n := from; n <= to; n++ {
		if isPrime(n) {
			list = append(list, n)
		}
	}
	return list
}

// rest is what is left of x by d, brought down bit by bit.
func rest(x api.Nat, d int) int {
	r := 0
	for i := 64*len(x) - 1; i >= 0; i-- {
		r = (2*r + int(x[i/64]>>(i%64)%2)) % d
	}
	return r
}

// restOfWord is the same of a number of one word.
func restOfWord(x uint64, d int) int { return int(x % uint64(d)) }

// plainFactor is Factor by the chapter's words, out of primes that stand in a list, rising, and the rest by each.
func plainFactor(primes []int, bound int, restBy func(int) int) int {
	for _, p := range primes {
		if p <= bound && p <= 10000 && restBy(p) == 0 {
			return p
		}
	}
	return 0
}

// full has n words, all of them ones.
func full(n int) api.Nat {
	x := make(api.Nat, n)
	for i := range x {
		x[i] = top
	}
	return x
}

// single has n words, of which all but the one at a place are 0.
func single(n, place int, w uint64) api.Nat {
	x := make(api.Nat, n)
	x[place] = w
	return x
}

// longer is x with noughts at its top.
func longer(x api.Nat, more int) api.Nat {
	out := make(api.Nat, len(x)+more)
	copy(out, x)
	return out
}

// times is x w, with a word more than x if it needs it.
func times(x api.Nat, w uint64) api.Nat {
	out := make(api.Nat, 0, len(x)+1)
	above := uint64(0)
	for _, digit := range x {
		upper, lower := bits.Mul64(digit, w)
		sum, carry := bits.Add64(lower, above, 0)
		out = append(out, sum)
		above = upper + carry
	}
	if above > 0 {
		out = append(out, above)
	}
	return out
}

// after is x + 1.
func after(x api.Nat) api.Nat {
	out := longer(x, 1)
	for i := range out {
		if out[i]++; out[i] != 0 {
			break
		}
	}
	return out
}

// productOf is the product of numbers, 1 of none.
func productOf(list ...int) api.Nat {
	x := api.Nat{1}
	for _, w := range list {
		x = times(x, uint64(w))
	}
	return x
}

// powerOf is a power of a number that has just n words, or the highest one below them.
func powerOf(w uint64, n int) api.Nat {
	x := api.Nat{1}
	for {
		next := times(x, w)
		if len(next) > n {
			return x
		}
		x = next
	}
}

// spread tells words that are spread, others for each start.
func spread(start uint64) func() uint64 {
	w := 0x9e3779b97f4a7c15 * (2*start + 1)
	return func() uint64 {
		w ^= w << 13
		w ^= w >> 7
		w ^= w << 17
		return w
	}
}

// mixture has n words that are spread.
func mixture(n int, start uint64) api.Nat {
	x := make(api.Nat, n)
	next := spread(start)
	for i := range x {
		x[i] = next()
	}
	return x
}
