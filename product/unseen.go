package product

import (
	"sconce/api"
	"sconce/limbs"
	"sconce/trace"
	"sconce/word"
)

// What stands in this file branches on lengths alone and comes to no place that hangs on what words hold.

// wordBits is how many bits a word has.
const wordBits = 64

// rows is the product of a and b: a row of b for each word of a.
func rows(t *trace.Trace, a, b api.Nat) api.Nat {
	out := make(api.Nat, len(a)+len(b))
	for i := range len(a) {
		t.Span(len(b))
		end := i + len(b)
		// No row came to the place at the end yet: it holds 0 there.
		out[end] = addRow(out[i:end], b, a[i])
	}
	return out
}

// addRow adds b times w to as many words of out, and answers the word above them.
func addRow(out, b api.Nat, w uint64) uint64 {
	var above uint64
	for i := range len(b) {
		above, out[i] = word.Mul(b[i], w, out[i], above)
	}
	return above
}

// extended is a copy of x with noughts behind, up to a length that is not less than its own.
func extended(x api.Nat, length int) api.Nat {
	out := make(api.Nat, length)
	copy(out, x)
	return out
}

// divideByBits brings a's bits down into the rest one by one, the highest ahead. With m 0 the answers mean nothing.
func divideByBits(t *trace.Trace, a, m api.Nat) (api.Nat, api.Nat) {
	quotient, rest := make(api.Nat, len(a)), make(api.Nat, len(m))
	many := wordBits * len(a)
	for i := range many {
		place := many - 1 - i
		bit := a[place/wordBits] >> (place % wordBits)
		var taken uint64
		rest, taken = bringDown(t, rest, m, bit)
		quotient[place/wordBits] |= taken << (place % wordBits)
	}
	return quotient, rest
}

// bringDown puts a bit behind a rest below m and takes m away, if it goes; and whether it does.
func bringDown(t *trace.Trace, rest, m api.Nat, bit uint64) (api.Nat, uint64) {
	double, over := limbs.Left(t, rest, bit)
	less, borrow := limbs.Sub(t, double, m)
	// A bit that fell out at the top makes the number greater than every m of its length.
	taken := over | (borrow ^ 1)
	return limbs.Select(t, taken, less, double), taken
}
