package ring

import (
	"sconce/api"
	"sconce/limbs"
	"sconce/trace"
)

// What stands in this file goes one way and comes to no place of its own, whatever words hold: a modulus may be as secret as its members.

// sum is a + b modulo M, of members.
func sum(t *trace.Trace, m api.Modulus, a, b api.Nat) api.Nat {
	whole, over := limbs.Add(t, a, b)
	less, borrow := limbs.Sub(t, whole, m.M)
	// A bit above M's words makes the sum greater than M, whatever was borrowed.
	return limbs.Select(t, over|(borrow^1), less, whole)
}

// difference is a - b modulo M, of members.
func difference(t *trace.Trace, m api.Modulus, a, b api.Nat) api.Nat {
	less, borrow := limbs.Sub(t, a, b)
	out, _ := limbs.AddIf(t, borrow, less, m.M)
	return out
}

// half is the member whose double is a: M is odd, so one of a and a + M is even.
func half(t *trace.Trace, m api.Modulus, a api.Nat) api.Nat {
	_, odd := limbs.Right(t, a, 0)
	even, over := limbs.AddIf(t, odd, a, m.M)
	out, _ := limbs.Right(t, even, over)
	return out
}
