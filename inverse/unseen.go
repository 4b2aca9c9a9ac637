package inverse

import (
	"sconce/api"
	"sconce/limbs"
	"sconce/nat"
	"sconce/ring"
	"sconce/trace"
	"sconce/word"
)

// What stands in this file counts by lengths alone and comes to no place but a number's lowest and highest word: a modulus may be as secret as its members.

// topBit is the place of a word's highest bit.
const topBit = 63

// coefficients are members: modulo M, f is u times a, and g is v times a.
type coefficients struct {
	u, v api.Nat
}

// pair is what the steps have come to. f, g and d may be below 0: they are as two's complement has them, f and g with a word more than M, in which their sums and differences have room, too.
type pair struct {
	coefficients
	f, g api.Nat
	d    uint64
}

// inverted is the inverse of a, which has M's length, and 1; or noughts, and 0, if there is none.
func inverted(t *trace.Trace, m api.Modulus, a api.Nat) (api.Nat, uint64) {
	p := beginning(m, a)
	for range Steps(wordBits * len(a)) {
		p = stepped(t, m, p)
	}
	below := sign(p.f)
	negative, _ := limbs.Sub(t, nil, p.f)
	divisor := limbs.Select(t, below, negative, p.f)
	is := limbs.Equal(t, divisor, api.Nat{1})
	// An f of -1 is u a as well: then it is the negative of u that makes 1 of a. Of an m that is no modulus there is no negative, but Of refuses that.
	opposite, _ := ring.Neg(t, m, p.u)
	inverse := limbs.Select(t, below, opposite, p.u)
	return limbs.Select(t, is, inverse, nil), is
}

// beginning is what stands ahead of all steps: M is 0 times a, and a once a.
func beginning(m api.Modulus, a api.Nat) pair {
	n := len(a)
	return pair{
		coefficients: coefficients{u: make(api.Nat, n), v: nat.Word(1, n)},
		f:            fitted(m.M, n+1),
		g:            fitted(a, n+1),
		d:            1,
	}
}

// stepped is what one step makes of p.
func stepped(t *trace.Trace, m api.Modulus, p pair) pair {
	odd := p.g[0] & 1
	// Just of a d above 0 the negative has the highest bit: d is far from where it would wrap round.
	swap := odd & (-p.d >> topBit)
	mask := word.Mask(swap)
	return pair{
		coefficients: p.coefficients.stepped(t, m, swap, odd),
		f:            limbs.Select(t, swap, p.g, p.f),
		g:            halved(t, combined(t, swap, odd, p.g, p.f)),
		// d's bits turned over, and 1 more, are its negative.
		d: (p.d ^ mask) + (mask & 1) + 1,
	}
}

// stepped is what one step makes of c. The reckoning is ring's; its calls would ask at each step anew whether m is a modulus, which takes far longer than the step.
func (c coefficients) stepped(t *trace.Trace, m api.Modulus, swap, odd uint64) coefficients {
	less, borrow := limbs.SubIf(t, swap, c.v, c.u)
	difference, _ := limbs.AddIf(t, borrow, less, m.M)
	whole, over := limbs.AddIf(t, odd^swap, difference, c.u)
	rest, borrow := limbs.Sub(t, whole, m.M)
	// A bit above M's words makes the sum greater than M, whatever was borrowed.
	sum := limbs.Select(t, over|(borrow^1), rest, whole)
	// M is odd, so one of the sum and the sum and M is even.
	even, over := limbs.AddIf(t, sum[0]&1, sum, m.M)
	half, _ := limbs.Right(t, even, over)
	return coefficients{u: limbs.Select(t, swap, c.v, c.u), v: half}
}

// combined is g - f where f and g change places, else g + f of an odd g, and g of an even one.
func combined(t *trace.Trace, swap, odd uint64, g, f api.Nat) api.Nat {
	difference, _ := limbs.SubIf(t, swap, g, f)
	// They change places only where g is odd.
	sum, _ := limbs.AddIf(t, odd^swap, difference, f)
	return sum
}

// halved is the half of an even number that may be below 0.
func halved(t *trace.Trace, x api.Nat) api.Nat {
	half, _ := limbs.Right(t, x, sign(x))
	return half
}

// sign is 1, if x is below 0, else 0.
func sign(x api.Nat) uint64 {
	return x[len(x)-1] >> topBit
}

// fitted is a copy of x in n words: what it has more is cut off, what it hasn't is 0.
func fitted(x api.Nat, n int) api.Nat {
	out := make(api.Nat, n)
	copy(out, x)
	return out
}
