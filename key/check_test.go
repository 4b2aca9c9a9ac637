package key_test

import (
	"slices"
	"testing"

	"sconce/api"
	"sconce/key"
)

// askCheck asks what Check tells.
func askCheck(t *testing.T, what string, k api.Key, want api.Errno) {
	t.Helper()
	if got := key.Check(k); got != want {
		t.Errorf("%s: Check(%x): %d, not %d", what, k, got, want)
	}
}

// someKeys are keys written out and keys that are made, of up to 4096 bits.
func someKeys(t *testing.T) []api.Key {
	t.Helper()
	list := sampleKeys(t)
	next := spread(9)
	for _, c := range []struct{ p, q int }{{17, 17}, {32, 33}, {64, 64}, {64, 65}, {70, 20}, {20, 130}, {512, 512}, {2048, 2048}} {
		for {
			p, q, e := someOdd(next, c.p), someOdd(next, c.q), next()%(1<<17)|1
			if plainIs(p, q, e) {
				list = append(list, made(t, p, q, e))
				break
			}
		}
	}
	return list
}

// with is k with another number at a place.
func with(k api.Key, place int, x api.Nat) api.Key {
	k = copied(k)
	*numbersOf(&k)[place] = x
	return k
}

// P19.3 of keys as they are made.
func TestCheck(t *testing.T) {
	for _, k := range someKeys(t) {
		askCheck(t, "as it is made", k, api.OK)
		askCheck(t, "a copy", copied(k), api.OK)
	}
	askCheck(t, "both of 4096 bits", made(t, ones(4096, 1), ones(4096, 3), 65537), api.OK)
	askCheck(t, "of 3 and 8188 bits", made(t, api.Nat{5}, ones(8189, 1), 65537), api.OK)
}

// P19.3: one number changed in one bit, made longer by a nought, shorter, or taken away.
func TestCheckOfChanged(t *testing.T) {
	for _, k := range someKeys(t) {
		for place, x := range numbersOf(&k) {
			places := []int{0, 1, 63}
			if last := 64*len(*x) - 1; last > 63 {
				places = append(places, 64, last-1, last)
			}
			for _, bit := range places {
				y := slices.Clone(*x)
				y[bit/64] ^= 1 << (bit % 64)
				askCheck(t, "a bit", with(k, place, y), api.ErrKey)
			}
			askCheck(t, "a nought", with(k, place, longer(*x, 1)), api.ErrKey)
			askCheck(t, "300 words", with(k, place, longer(*x, 300-len(*x))), api.ErrKey)
			askCheck(t, "301 words", with(k, place, longer(*x, 301-len(*x))), api.ErrKey)
			askCheck(t, "shorter", with(k, place, (*x)[:len(*x)-1]), api.ErrKey)
			askCheck(t, "without its lowest word", with(k, place, (*x)[1:]), api.ErrKey)
			askCheck(t, "none", with(k, place, nil), api.ErrKey)
			askCheck(t, "no words", with(k, place, api.Nat{}), api.ErrKey)
			askCheck(t, "noughts", with(k, place, make(api.Nat, len(*x))), api.ErrKey)
			if !isOne(*x) {
				askCheck(t, "1", with(k, place, single(len(*x), 0, 1)), api.ErrKey)
			}
			askCheck(t, "full", with(k, place, full(len(*x))), api.ErrKey)
		}
	}
}

// P19.3: another exponent, right or wrong.
func TestCheckOfOtherExponent(t *testing.T) {
	for _, k := range someKeys(t) {
		for _, e := range []uint64{0, 1, 2, k.E - 2, k.E - 1, k.E + 1, k.E + 2, k.E + 1<<32, 1 << 32, top} {
			other := copied(k)
			other.E = e
			askCheck(t, "another E", other, api.ErrKey)
		}
	}
	// Exponents that are Common(p, q) apart, which is 196,608 here, have the same inverse, and so the same other numbers.
	k := made(t, api.Nat{65537}, api.Nat{98305}, 196609)
	k.E += 196608
	askCheck(t, "an E of the same numbers", k, api.OK)
	k.E += 2
	askCheck(t, "an E of other numbers", k, api.ErrKey)
}

// P19.3: P and Q changed about are another key's, whose QI is another one.
func TestCheckOfTurned(t *testing.T) {
	for _, k := range someKeys(t) {
		turned := copied(k)
		turned.P, turned.Q = turned.Q, turned.P
		askCheck(t, "P and Q", turned, api.ErrKey)
		turned.DP, turned.DQ = turned.DQ, turned.DP
		askCheck(t, "P and Q, DP and DQ", turned, api.ErrKey)
		turned.QI = made(t, k.Q, k.P, k.E).QI
		askCheck(t, "P and Q, DP and DQ, with the right QI", turned, api.OK)
		if k.DP[0] != k.DQ[0] {
			halves := copied(k)
			halves.DP, halves.DQ = halves.DQ, halves.DP
			askCheck(t, "DP and DQ", halves, api.ErrKey)
		}
	}
}

// P19.3: numbers that hold the same equations, but aren't the least to do so.
func TestCheckOfGreater(t *testing.T) {
	k := made(t, api.Nat{65521}, api.Nat{65537}, 17)
	common, _ := key.Common(k.P, k.Q)
	for _, c := range []struct {
		place int
		more  uint64
	}{{1, common[0]}, {1, 2 * common[0]}, {4, 65520}, {5, 65536}, {6, 65521}} {
		x := slices.Clone(*numbersOf(&k)[c.place])
		x[0] += c.more
		askCheck(t, "greater by a modulus", with(k, c.place, x), api.ErrKey)
	}
	// The inverse of 17 modulo 65520 65536 holds all that a private exponent has to, but isn't that modulo Common.
	for d := uint64(1); d < 65520*65536; d += common[0] {
		if x := d - 1 + k.D[0]; 17*x%(65520*65536) == 1 && x != k.D[0] {
			askCheck(t, "modulo the product", with(k, 1, api.Nat{x}), api.ErrKey)
			return
		}
	}
	t.Error("there is no such exponent")
}

// P19.3: keys of which there are none.
func TestCheckOfNone(t *testing.T) {
	askCheck(t, "that nobody made", api.Key{}, api.ErrKey)
	askCheck(t, "an exponent alone", api.Key{E: 65537}, api.ErrKey)
	askCheck(t, "P and Q alone", api.Key{E: 17, P: api.Nat{65521}, Q: api.Nat{65537}}, api.ErrKey)
	one := api.Nat{1}
	askCheck(t, "ones", api.Key{N: one, E: 1, D: one, P: one, Q: one, DP: one, DQ: one, QI: one}, api.ErrKey)
	// 15 and 21 have 3 together; 17 and 17 are alike; 17 and 19 are too small.
	for _, c := range []struct{ p, q uint64 }{{15, 21}, {17, 17}, {17, 19}, {65536, 65537}, {3 * 65537, 65537}, {65537, 65537}} {
		p, q := api.Nat{c.p}, api.Nat{c.q}
		askCheck(t, "of what may not be", api.Key{N: api.Nat{c.p * c.q}, E: 65537, D: one, P: p, Q: q, DP: one, DQ: one, QI: one}, api.ErrKey)
		askCheck(t, "of what may not be, in noughts", api.Key{N: api.Nat{c.p * c.q}, E: 65537, D: api.Nat{0}, P: p, Q: q, DP: api.Nat{0}, DQ: api.Nat{0}, QI: api.Nat{0}}, api.ErrKey)
	}
	for _, n := range []int{0, 1, 128, 129, 256, 300, 301, 1000} {
		x := full(n)
		askCheck(t, "of full numbers", api.Key{N: x, E: 65537, D: x, P: x, Q: x, DP: x, DQ: x, QI: x}, api.ErrKey)
		x = make(api.Nat, n)
		askCheck(t, "of noughts", api.Key{N: x, E: 65537, D: x, P: x, Q: x, DP: x, DQ: x, QI: x}, api.ErrKey)
	}
	// Another key's numbers, of the same lengths.
	k, other := made(t, api.Nat{65521}, api.Nat{65537}, 17), made(t, api.Nat{65523}, api.Nat{65537}, 17)
	for place, x := range numbersOf(&other) {
		if !slices.Equal(*x, *numbersOf(&k)[place]) {
			askCheck(t, "another key's", with(k, place, *x), api.ErrKey)
		}
	}
}

// P2: a key's numbers stand in lists with more around them, of which nothing is read or written.
func TestCheckLeavesAll(t *testing.T) {
	for _, k := range sampleKeys(t) {
		for _, want := range []api.Errno{api.OK, api.ErrKey} {
			if want != api.OK {
				k.N = longer(k.N, 1)
			}
			before := copied(k)
			all := make([]api.Nat, 7)
			for i, x := range numbersOf(&k) {
				all[i], *x = room(*x, uint64(i))
			}
			askCheck(t, "in rooms", k, want)
			if !sameKeys(k, before) {
				t.Errorf("%x is changed to %x", before, k)
			}
			for i, x := range numbersOf(&before) {
				if again, _ := room(*x, uint64(i)); !slices.Equal(all[i], again) {
					t.Errorf("what is beside number %d is changed", i)
				}
			}
		}
	}
}
