package power

import (
	"iter"
	"math/bits"

	"sconce/api"
	"sconce/limbs"
	"sconce/mont"
	"sconce/trace"
)

// What stands in this file counts by lengths alone and comes to no place that hangs on what words hold: the exponent is a secret, and so may the others be.

// The exponent's bits are gone through by windows.
const (
	windowBits = 4
	wordBits   = 64
	windowMask = 1<<windowBits - 1
)

// powers are x to the powers 0 to 15, x and all of them as mont.Enter has them.
func powers(t *trace.Trace, m api.Modulus, x api.Nat) []api.Nat {
	one := make(api.Nat, len(m.M))
	one[0] = 1
	list := []api.Nat{step(mont.Enter(t, m, one)), x}
	for i := range windowMask - 1 {
		list = append(list, step(mont.Mul(t, m, list[i+1], x)))
	}
	return list
}

// raised is the number whose powers are in the table to the power of e, no more as mont.Enter has it.
func raised(t *trace.Trace, m api.Modulus, table []api.Nat, e api.Nat) api.Nat {
	t.Span(len(e))
	power := table[0]
	for window := range windows(e) {
		for range windowBits {
			power = step(mont.Mul(t, m, power, power))
		}
		// A window of noughts takes its product like others, with the power 0.
		power = step(mont.Mul(t, m, power, limbs.Pick(t, table, window)))
	}
	return step(mont.Leave(t, m, power))
}

// windows tells the windows of a number, the highest ahead: all that its words have, noughts at its top among them.
func windows(e api.Nat) iter.Seq[uint64] {
	return func(yield func(uint64) bool) {
		for i := range len(e) {
			w := e[len(e)-1-i]
			for range wordBits / windowBits {
				w = bits.RotateLeft64(w, windowBits)
				if !yield(w & windowMask) {
					return
				}
			}
		}
	}
}
