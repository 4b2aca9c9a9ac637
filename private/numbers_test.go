package private_test

import (
	"math/big"
	"slices"
	"testing"

	"sconce/api"
	"sconce/nat"
)

const top = uint64(1<<64 - 1)

// full has n words, all of them ones.
func full(n int) api.Nat {
	return slices.Repeat(api.Nat{top}, n)
}

// longer is x with noughts at its top.
func longer(x api.Nat, more int) api.Nat {
	return append(slices.Clone(x), make(api.Nat, more)...)
}

// cut is x without noughts at its top.
func cut(x api.Nat) api.Nat {
	for len(x) > 0 && x[len(x)-1] == 0 {
		x = x[:len(x)-1]
	}
	return x
}

// small is a word as a plain number.
func small(w uint64) *big.Int { return new(big.Int).SetUint64(w) }

// twos is 2 to the power of many.
func twos(many int) *big.Int { return new(big.Int).Lsh(small(1), uint(many)) }

func sum(a, b *big.Int) *big.Int { return new(big.Int).Add(a, b) }

// less is x less a word.
func less(x *big.Int, w uint64) *big.Int { return new(big.Int).Sub(x, small(w)) }

func times(a, b *big.Int) *big.Int { return new(big.Int).Mul(a, b) }

func rest(a, m *big.Int) *big.Int { return new(big.Int).Mod(a, m) }

func raised(a, e, m *big.Int) *big.Int { return new(big.Int).Exp(a, e, m) }

func divisor(a, b *big.Int) *big.Int { return new(big.Int).GCD(nil, nil, a, b) }

// valueOf is x as a plain number, whatever its length.
func valueOf(x api.Nat) *big.Int {
	v := new(big.Int)
	for i := range x {
		v.Or(v.Lsh(v, 64), small(x[len(x)-1-i]))
	}
	return v
}

// wordsOf are the lowest n words of a number; what it has more is cut off.
func wordsOf(v *big.Int, n int) api.Nat {
	x, left := make(api.Nat, n), new(big.Int).Set(v)
	for i := range x {
		x[i] = left.Uint64()
		left.Rsh(left, 64)
	}
	return x
}

// words is how many words a number needs, sizeOf how many bytes.
func words(v *big.Int) int { return (v.BitLen() + 63) / 64 }

func sizeOf(v *big.Int) int { return (v.BitLen() + 7) / 8 }

// natOf is a number in as few words as it needs.
func natOf(v *big.Int) api.Nat { return wordsOf(v, words(v)) }

// bytesOf is a number in size bytes, the highest ahead, or in more, if it needs them.
func bytesOf(v *big.Int, size int) []byte {
	return v.FillBytes(make([]byte, max(size, sizeOf(v))))
}

// shown is the number of a text that nat.Show writes.
func shown(t *testing.T, s string) *big.Int {
	t.Helper()
	x, is := nat.Parse(s)
	if !is {
		t.Fatalf("%q is no number", s)
	}
	return valueOf(x)
}

// spread tells words that are spread, others for each start.
func spread(start uint64) func() uint64 {
	w := 0x9e3779b97f4a7c15 * (2*start + 1)
	return func() uint64 {
		w ^= w << 13
		w ^= w >> 7
		w ^= w << 17
		return w
	}
}

// someBytes are as many as are asked for.
func someBytes(next func() uint64, many int) []byte {
	b := make([]byte, many)
	for i := range b {
		b[i] = byte(next() >> 32)
	}
	return b
}

// someBelow is a number below n.
func someBelow(next func() uint64, n *big.Int) *big.Int {
	return rest(new(big.Int).SetBytes(someBytes(next, sizeOf(n)+8)), n)
}

// primeFrom is the first prime from start on that may be in a key with e: less 1 it has no divisor together with it.
func primeFrom(start *big.Int, e uint64) *big.Int {
	p := new(big.Int).Or(start, small(1))
	for !p.ProbablyPrime(0) || divisor(less(p, 1), small(e)).Cmp(small(1)) != 0 {
		p.Add(p, small(2))
	}
	return p
}

// productFrom is the first number from start on that is odd, may be in a key with e and is no prime.
func productFrom(start *big.Int, e uint64) *big.Int {
	p := new(big.Int).Or(start, small(1))
	for p.ProbablyPrime(0) || divisor(less(p, 1), small(e)).Cmp(small(1)) != 0 {
		p.Add(p, small(2))
	}
	return p
}

// guard lays lists into the middle of others, and tells whether any of them was changed.
type guard struct {
	beside  byte
	numbers [][2]api.Nat
	lists   [][2][]byte
}

// number is x, beside other words.
func (g *guard) number(x api.Nat) api.Nat {
	w := uint64(g.beside) * 0x0101010101010101
	all := slices.Concat(slices.Repeat(api.Nat{w}, 5), x, slices.Repeat(api.Nat{w}, 5))
	g.numbers = append(g.numbers, [2]api.Nat{all, slices.Clone(all)})
	return all[5 : 5+len(x)]
}

// list is b, beside other bytes.
func (g *guard) list(b []byte) []byte {
	all := slices.Concat(slices.Repeat([]byte{g.beside}, 20), b, slices.Repeat([]byte{g.beside}, 20))
	g.lists = append(g.lists, [2][]byte{all, slices.Clone(all)})
	return all[20 : 20+len(b)]
}

// key is k, each of whose numbers is beside other words.
func (g *guard) key(k api.Key) api.Key {
	for _, x := range numbersOf(&k) {
		*x = g.number(*x)
	}
	return k
}

func (g *guard) changed() bool {
	for _, x := range g.numbers {
		if !slices.Equal(x[0], x[1]) {
			return true
		}
	}
	for _, b := range g.lists {
		if !slices.Equal(b[0], b[1]) {
			return true
		}
	}
	return false
}

// spoil changes each item of a list, and what is behind them as far as it may be reached.
func spoil[T byte | uint64](list []T) {
	list = list[:cap(list)]
	for i := range list {
		list[i] = ^list[i]
	}
}

// numbersOf are a key's numbers, to be changed where they stand.
func numbersOf(k *api.Key) []*api.Nat {
	return []*api.Nat{&k.N, &k.D, &k.P, &k.Q, &k.DP, &k.DQ, &k.QI}
}

// copied is a key that shares nothing with k.
func copied(k api.Key) api.Key {
	for _, x := range numbersOf(&k) {
		*x = slices.Clone(*x)
	}
	return k
}

// sameKeys says whether two keys are alike, words and all.
func sameKeys(a, b api.Key) bool {
	others := numbersOf(&b)
	for i, x := range numbersOf(&a) {
		if !slices.Equal(*x, *others[i]) {
			return false
		}
	}
	return a.E == b.E
}
