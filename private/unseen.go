package private

import (
	"sconce/api"
	"sconce/inverse"
	"sconce/limbs"
	"sconce/mont"
	"sconce/power"
	"sconce/product"
	"sconce/ring"
	"sconce/short"
	"sconce/trace"
)

// What stands in this file counts by lengths alone and comes to no place that hangs on what words hold: all but the key's public half and c is a secret, and where a fault strikes isn't to be seen.

const (
	byteBits  = 8
	wordBytes = 8
)

// striking is what each number goes through where it comes out: a fault at that place puts its own one there, and what stands there then is taken modulo m. A number that no fault strikes takes the same way.
type striking func(at int, m api.Modulus, x api.Nat) api.Nat

func strikingBy(t *trace.Trace, f api.Fault) striking {
	return func(at int, m api.Modulus, x api.Nat) api.Nat {
		strikes := limbs.Equal(t, api.Nat{uint64(at)}, api.Nat{uint64(f.At)})
		stands := limbs.Select(t, strikes, fitted(f.With, len(x)), x)
		return step(ring.Reduce(t, m, stands))
	}
}

// checkedPower is c to the power of k.D modulo N, blinded by r, and 1; or noughts, and 0, if its power of k.E isn't c.
func checkedPower(t *trace.Trace, k api.Key, c, r api.Nat, f api.Fault) (api.Nat, uint64) {
	n := step(mont.Setup(k.N))
	strike := strikingBy(t, f)
	b := step(ring.Mul(t, n, c, step(short.Exp(n, r, k.E))))
	z := strike(api.FaultCRT, n, powerByHalves(t, k, b, strike))
	back, _, unfit := inverse.Of(t, n, r)
	m := strike(api.FaultOut, n, step(ring.Mul(t, n, z, step(back, unfit))))
	right := limbs.Equal(t, step(short.Exp(n, m, k.E)), c)
	return limbs.Select(t, right, m, nil), right
}

// powerByHalves is b to the power of k.D, modulo P and modulo Q, both put together, in N's length.
func powerByHalves(t *trace.Trace, k api.Key, b api.Nat, strike striking) api.Nat {
	p, q := step(mont.Setup(k.P)), step(mont.Setup(k.Q))
	x := strike(api.FaultP, p, powerModulo(t, p, b, k.DP))
	y := strike(api.FaultQ, q, powerModulo(t, q, b, k.DQ))
	difference := step(ring.Sub(t, p, x, step(ring.Reduce(t, p, y))))
	// QI is below P, but as long as the longer one of P and Q.
	times := step(ring.Mul(t, p, fitted(k.QI, len(p.M)), difference))
	z, _ := limbs.Add(t, product.Mul(t, times, q.M), y)
	// It is below N, which may need a word less than P and Q together.
	return fitted(z, len(k.N))
}

// powerModulo is b, which need not be below m, to the power of e modulo m.
func powerModulo(t *trace.Trace, m api.Modulus, b, e api.Nat) api.Nat {
	return step(power.Exp(t, m, step(ring.Reduce(t, m, b)), e))
}

// fitted is a copy of x in n words: what it has more is cut off, what it hasn't is 0.
func fitted(x api.Nat, n int) api.Nat {
	out := make(api.Nat, n)
	copy(out, x)
	return out
}

// bytesOf is x in size bytes, the highest ahead, of which it has as many; nat.Bytes is for numbers that anybody may know.
func bytesOf(x api.Nat, size int) []byte {
	out := make([]byte, size)
	for i := range len(out) {
		out[len(out)-1-i] = byte(x[i/wordBytes] >> (byteBits * (i % wordBytes)))
	}
	return out
}
