package key_test

import (
	"math/bits"
	"slices"
	"testing"

	"sconce/api"
	"sconce/nat"
)

const top = uint64(1<<64 - 1)

// full has n words, all of them ones.
func full(n int) api.Nat {
	return slices.Repeat(api.Nat{top}, n)
}

// single has n words, of which all but the one at a place are 0.
func single(n, place int, w uint64) api.Nat {
	x := make(api.Nat, n)
	x[place] = w
	return x
}

// longer is x with noughts at its top.
func longer(x api.Nat, more int) api.Nat {
	return append(slices.Clone(x), make(api.Nat, more)...)
}

// cut is x without noughts at its top.
func cut(x api.Nat) api.Nat {
	for len(x) > 0 && x[len(x)-1] == 0 {
		x = x[:len(x)-1]
	}
	return x
}

// shown is the number of a text that nat.Show writes, without noughts at its top.
func shown(t *testing.T, s string) api.Nat {
	t.Helper()
	x, is := nat.Parse(s)
	if !is {
		t.Fatalf("%q is no number", s)
	}
	return x
}

// spread tells words that are spread, others for each start.
func spread(start uint64) func() uint64 {
	w := 0x9e3779b97f4a7c15 * (2*start + 1)
	return func() uint64 {
		w ^= w << 13
		w ^= w >> 7
		w ^= w << 17
		return w
	}
}

// someWords are as many words as are asked for.
func someWords(next func() uint64, many int) api.Nat {
	x := make(api.Nat, many)
	for i := range x {
		x[i] = next()
	}
	return x
}

// someOdd is an odd number of just so many bits.
func someOdd(next func() uint64, width int) api.Nat {
	x := someWords(next, (width+63)/64)
	x[len(x)-1] &= top >> (64*len(x) - width)
	x[(width-1)/64] |= 1 << ((width - 1) % 64)
	x[0] |= 1
	return x
}

// bitOf is bit i of x, the lowest being 0.
func bitOf(x api.Nat, i int) uint64 { return x[i/64] >> (i % 64) % 2 }

// widthOf is how many bits x has without noughts ahead.
func widthOf(x api.Nat) int {
	for i := 64*len(x) - 1; i >= 0; i-- {
		if bitOf(x, i) == 1 {
			return i + 1
		}
	}
	return 0
}

// below says whether a is below b, whatever their lengths.
func below(a, b api.Nat) bool {
	a, b = cut(a), cut(b)
	if len(a) != len(b) {
		return len(a) < len(b)
	}
	for i := len(a) - 1; i >= 0; i-- {
		if a[i] != b[i] {
			return a[i] < b[i]
		}
	}
	return false
}

// same says whether a and b are the same number, whatever their lengths.
func same(a, b api.Nat) bool { return slices.Equal(cut(a), cut(b)) }

func takeAway(x, m api.Nat) {
	var borrow uint64
	for i := range x {
		var w uint64
		if i < len(m) {
			w = m[i]
		}
		x[i], borrow = bits.Sub64(x[i], w, borrow)
	}
}

// less is x less a word, in its length; x is not below it.
func less(x api.Nat, w uint64) api.Nat {
	out := slices.Clone(x)
	takeAway(out, api.Nat{w})
	return out
}

// more is x and y, in a word more than the longer one has.
func more(x, y api.Nat) api.Nat {
	out := longer(x, max(len(x), len(y))+1-len(x))
	var carry uint64
	for i, w := range longer(y, len(out)-len(y)) {
		out[i], carry = bits.Add64(out[i], w, carry)
	}
	return out
}

// power is 2 to the power of many, in as few words as it needs.
func power(many int) api.Nat {
	return single(many/64+1, many/64, 1<<(many%64))
}

// ones is 2 to the power of many, less a word, in as few words as many bits need.
func ones(many int, w uint64) api.Nat {
	return less(power(many), w)[:(many+63)/64]
}

// halve takes the lowest bit off x.
func halve(x api.Nat) {
	for i := range x {
		x[i] >>= 1
		if i+1 < len(x) {
			x[i] |= x[i+1] << 63
		}
	}
}

// slowMul is a b in as many words as both together, reckoned digit by digit at base 2^32.
func slowMul(a, b api.Nat) api.Nat {
	digits := func(x api.Nat) []uint64 {
		var list []uint64
		for _, w := range x {
			list = append(list, w%(1<<32), w>>32)
		}
		return list
	}
	x := make([]uint64, 2*(len(a)+len(b)))
	for i, d := range digits(a) {
		var carry uint64
		for j, e := range digits(b) {
			sum := d*e + carry + x[i+j]
			x[i+j], carry = sum%(1<<32), sum>>32
		}
		x[i+2*len(b)] += carry
	}
	out := make(api.Nat, len(a)+len(b))
	for i := range out {
		out[i] = x[2*i] | x[2*i+1]<<32
	}
	return out
}

// slowDivide is the quotient in x's length and the rest in m's: it doubles and takes away.
func slowDivide(x, m api.Nat) (api.Nat, api.Nat) {
	quotient, rest := make(api.Nat, len(x)), make(api.Nat, len(m))
	for i := 64*len(x) - 1; i >= 0; i-- {
		over := bitOf(x, i)
		for j, w := range rest {
			rest[j], over = w<<1|over, w>>63
		}
		if over == 1 || !below(rest, m) {
			takeAway(rest, m)
			quotient[i/64] |= 1 << (i % 64)
		}
	}
	return quotient, rest
}

// slowRest is x modulo m in m's length.
func slowRest(x, m api.Nat) api.Nat {
	_, rest := slowDivide(x, m)
	return rest
}

// slowDivisor is the greatest number that divides both, of which none is 0: twos that are in both are put aside, then the smaller one is taken from the greater one till they are alike.
func slowDivisor(a, b api.Nat) api.Nat {
	a, b = slices.Clone(cut(a)), slices.Clone(cut(b))
	twos := 0
	for a[0]%2 == 0 && b[0]%2 == 0 {
		halve(a)
		halve(b)
		twos++
	}
	for !same(a, b) {
		switch {
		case a[0]%2 == 0:
			halve(a)
		case b[0]%2 == 0:
			halve(b)
		case below(a, b):
			takeAway(b, a)
		default:
			takeAway(a, b)
		}
	}
	return cut(slowMul(a, power(twos)))
}

// isOne says whether that is the number 1.
func isOne(x api.Nat) bool { return same(x, api.Nat{1}) }

// room has x in the middle of other words, and a piece of it that is x.
func room(x api.Nat, beside uint64) (all, piece api.Nat) {
	all = slices.Repeat(api.Nat{beside}, len(x)+40)
	copy(all[20:], x)
	return all, all[20 : 20+len(x)]
}

// plainPublic says by the chapter's words whether Public takes them.
func plainPublic(n api.Nat, e uint64) bool {
	width := widthOf(n)
	return width >= 32 && width <= 8192 && n[0]%2 == 1 && n[len(n)-1] != 0 && e%2 == 1 && e >= 3 && e < 1<<32
}

// plainCommon is Common by the chapter's words, of numbers above 1, in as few words as it needs.
func plainCommon(p, q api.Nat) api.Nat {
	a, b := less(cut(p), 1), less(cut(q), 1)
	out, _ := slowDivide(slowMul(a, b), slowDivisor(a, b))
	return cut(out)
}

// plainHalf says by the chapter's words whether Of takes that number at all.
func plainHalf(x api.Nat) bool {
	return len(x) <= 300 && widthOf(x) <= 8192 && below(api.Nat{2}, x) && x[0]%2 == 1
}

// plainIs says by the chapter's words whether there is a key of these.
func plainIs(p, q api.Nat, e uint64) bool {
	if !plainHalf(p) || !plainHalf(q) || !plainPublic(cut(slowMul(cut(p), cut(q))), e) || !isOne(slowDivisor(p, q)) {
		return false
	}
	return isOne(slowDivisor(api.Nat{e}, plainCommon(p, q)))
}

// broken are those of the chapter's words that a key of p, q and e doesn't hold. Of all numbers below a modulus one alone is an inverse, so that a key that holds all of them is the right one.
func broken(k api.Key, p, q api.Nat, e uint64) []string {
	p, q = cut(p), cut(q)
	common := plainCommon(p, q)
	length := max(len(p), len(q))
	n := cut(slowMul(p, q))
	var list []string
	for _, c := range []struct {
		what  string
		holds bool
	}{
		{"N is p q in as few words as it needs", slices.Equal(k.N, n)},
		{"E is e", k.E == e},
		{"P is p", slices.Equal(k.P, longer(p, length-len(p)))},
		{"Q is q", slices.Equal(k.Q, longer(q, length-len(q)))},
		{"D has N's length", len(k.D) == len(n)},
		{"D is below Common", below(k.D, common)},
		{"D e is 1 modulo Common", isOne(slowRest(slowMul(k.D, api.Nat{e}), common))},
		{"DP has P's length", len(k.DP) == length},
		{"DP is D modulo p - 1", same(k.DP, slowRest(k.D, less(p, 1)))},
		{"DQ has P's length", len(k.DQ) == length},
		{"DQ is D modulo q - 1", same(k.DQ, slowRest(k.D, less(q, 1)))},
		{"QI has P's length", len(k.QI) == length},
		{"QI is below p", below(k.QI, p)},
		{"QI q is 1 modulo p", isOne(slowRest(slowMul(k.QI, q), p))},
	} {
		if !c.holds {
			list = append(list, c.what)
		}
	}
	return list
}

// numbersOf are a key's numbers, to be changed where they stand.
func numbersOf(k *api.Key) []*api.Nat {
	return []*api.Nat{&k.N, &k.D, &k.P, &k.Q, &k.DP, &k.DQ, &k.QI}
}

// copied is a key that shares nothing with k.
func copied(k api.Key) api.Key {
	for _, x := range numbersOf(&k) {
		*x = slices.Clone(*x)
	}
	return k
}

// sameKeys says whether two keys are alike, words and all.
func sameKeys(a, b api.Key) bool {
	others := numbersOf(&b)
	for i, x := range numbersOf(&a) {
		if !slices.Equal(*x, *others[i]) {
			return false
		}
	}
	return a.E == b.E
}
