package private_test

import (
	"math/big"
	"slices"
	"testing"

	"sconce/api"
	"sconce/private"
	"sconce/script"
)

// manyDivisors is the product of all odd primes up to a limit: most draws below it have no inverse.
func manyDivisors(limit int64) *big.Int {
	out := small(1)
	for i := int64(3); i <= limit; i += 2 {
		if p := big.NewInt(i); p.ProbablyPrime(0) {
			out.Mul(out, p)
		}
	}
	return out
}

// oddNumbers are moduli of few words, among them such whose draws often have no inverse.
func oddNumbers() []api.Nat {
	list := []api.Nat{{3}, {5}, {7}, {9}, {15}, {21}, {25}, {27}, {45}, {75}, {105}, {127}, {129}, {225}, {255}, {257}, {315}, {1155}, {3465}, {65535}, {65537}, {1<<32 - 1}, {top}, {top - 58}, {1, 1}, {top, 1}, full(2), full(3)}
	for _, limit := range []int64{13, 47, 53, 59, 101, 103} {
		list = append(list, natOf(manyDivisors(limit)))
	}
	return list
}

// P22.3 of scripts of all lengths from no bytes on: the number, how many draws it took, ErrSpent, and what is left.
func TestBlind(t *testing.T) {
	t.Parallel()
	for _, n := range oddNumbers() {
		size, next := sizeOf(valueOf(n)), spread(n[0])
		for range 4 {
			b := someBytes(next, 12*size)
			for many := 0; many <= len(b); many += 1 + many/20 {
				askBlind(t, n, b[:many])
			}
		}
		askBlind(t, n, nil)
		askBlind(t, n, []byte{})
	}
}

// P22.3 at each byte, and at many pairs of them: with n of 3 a draw is 1 or 2; of 9 and of 15 some have no inverse.
func TestBlindOfBytes(t *testing.T) {
	t.Parallel()
	for _, n := range []api.Nat{{3}, {9}, {15}, {45}, {105}, {255}} {
		for first := range 256 {
			askBlind(t, n, []byte{byte(first)})
			for second := range 256 {
				if second%32 == first%32 || n[0] == 15 && first < 16 && second < 32 {
					askBlind(t, n, []byte{byte(first), byte(second), 4})
				}
			}
		}
	}
}

// TestBlindByHand asks what was told by hand.
func TestBlindByHand(t *testing.T) {
	for _, c := range []struct {
		b    []byte
		n    api.Nat
		want api.Nat
		many int
		e    api.Errno
		left int
	}{
		{[]byte{1, 9}, api.Nat{3}, api.Nat{1}, 1, api.OK, 1},
		{[]byte{0, 3, 2, 9, 9}, api.Nat{3}, api.Nat{2}, 3, api.OK, 2},
		{[]byte{3, 6, 4}, api.Nat{9}, api.Nat{4}, 3, api.OK, 0},
		{[]byte{3, 6}, api.Nat{9}, nil, 0, api.ErrSpent, 0},
		{[]byte{3, 5, 0, 7}, api.Nat{15}, api.Nat{7}, 4, api.OK, 0},
		{[]byte{3, 5, 15, 0, 9, 10, 12, 14, 1}, api.Nat{15}, api.Nat{14}, 8, api.OK, 1},
		{[]byte{0xf7, 1}, api.Nat{15}, api.Nat{7}, 1, api.OK, 1},
		{[]byte{3, 5, 0, 7}, api.Nat{15, 0, 0}, api.Nat{7, 0, 0}, 4, api.OK, 0},
		{[]byte{1, 1, 1, 2, 0, 2, 5}, api.Nat{257}, api.Nat{2}, 3, api.OK, 1},
		{[]byte{1, 0, 7}, api.Nat{257}, api.Nat{256}, 1, api.OK, 1},
		{[]byte{1, 2, 1}, api.Nat{257}, nil, 0, api.ErrSpent, 0},
		{nil, api.Nat{3}, nil, 0, api.ErrSpent, 0},
		{[]byte{1, 1}, api.Nat{1}, nil, 0, api.ErrRange, 2},
		{[]byte{1, 1}, api.Nat{4}, nil, 0, api.ErrRange, 2},
	} {
		s := script.New(c.b)
		got, many, e := private.Blind(s, c.n)
		if e != c.e || many != c.many || !slices.Equal(got, c.want) || s.Left() != c.left {
			t.Errorf("Blind(%x, %x): %x, %d draws, error %d, %d left, not %x, %d draws, error %d, %d left", c.b, c.n, got, many, e, s.Left(), c.want, c.many, c.e, c.left)
		}
	}
}

// P22.3: what n may not be, with any script, from which nothing is read.
func TestBlindRange(t *testing.T) {
	list := []api.Nat{nil, {}, {0}, {1}, {2}, {4}, {6}, {100}, {1 << 63}, {top - 1}, {0, 0}, {1, 0}, {2, 0}, {0, 1}, {2, 1}, {top - 1, top}, make(api.Nat, 300), make(api.Nat, 301), longer(api.Nat{1}, 299), longer(api.Nat{2}, 299),
		full(131), full(132), full(200), full(299), full(300), full(301), full(1000), append(longer(api.Nat{1}, 129), 1), append(make(api.Nat, 129), 1), append(full(130), 1), append(make(api.Nat, 130), 1), append(longer(api.Nat{5}, 298), 1),
		longer(full(131), 1), longer(full(131), 169), longer(full(131), 170), longer(full(130), 171), longer(api.Nat{3}, 300), longer(api.Nat{15}, 301), longer(api.Nat{15}, 5000), longer(api.Nat{4}, 300)}
	for _, n := range list {
		for _, b := range [][]byte{nil, {}, {3}, someBytes(spread(3), 3000)} {
			if n := slices.Clone(n); askBlind(t, n, b) != 0 {
				t.Errorf("Blind(%x, %x) tells draws", b, n)
			}
			s := script.New(b)
			if got, many, e := private.Blind(s, n); e != api.ErrRange || many != 0 || len(got) > 0 || s.Left() != len(b) {
				t.Errorf("Blind(%x, %x): %x, %d draws, error %d, %d left", b, n, got, many, e, s.Left())
			}
		}
	}
	if _, _, e := private.Blind(nil, api.Nat{4}); e != api.ErrRange {
		t.Errorf("Blind without a script, of an even number: error %d", e)
	}
}

// P22.3: noughts at n's top are told in the number's length, but ask for no more bytes.
func TestBlindLonger(t *testing.T) {
	t.Parallel()
	for _, x := range []api.Nat{{3}, {15}, {105}, {top}, {5, 1}, full(3)} {
		next := spread(x[0])
		for _, n := range []api.Nat{longer(x, 1), longer(x, 2), longer(x, 129), longer(x, 130), longer(x, 200), longer(x, 300-len(x))} {
			for range 3 {
				b := someBytes(next, 10*sizeOf(valueOf(x)))
				askBlind(t, n, b)
				askBlind(t, n, b[:sizeOf(valueOf(x))])
			}
		}
	}
}

// P22.3 of as many words as a modulus may have.
func TestBlindGreat(t *testing.T) {
	t.Parallel()
	next := spread(130)
	divided := new(big.Int).Set(manyDivisors(101))
	for words(divided) < 130 {
		divided.Mul(divided, manyDivisors(101))
	}
	divided.Rsh(divided, uint(divided.BitLen()-64*130+1)).SetBit(divided, 0, 1)
	for _, n := range []api.Nat{full(130), longer(full(130), 170), append(longer(api.Nat{1}, 128), 1), natOf(divided), full(128)} {
		b := someBytes(next, 3*sizeOf(valueOf(n)))
		askBlind(t, n, b)
		askBlind(t, n, b[:sizeOf(valueOf(n))-1])
	}
	// 3 divides each of the first two draws, and n.
	n := full(130)
	size := sizeOf(valueOf(n))
	third := new(big.Int).Div(valueOf(n), small(3))
	b := slices.Concat(bytesOf(small(3), size), bytesOf(times(third, small(2)), size), bytesOf(valueOf(n), size), bytesOf(small(2), size), []byte{1})
	if many := askBlind(t, n, b); many != 4 {
		t.Errorf("%d draws", many)
	}
}

// TestBlindOften asks draws that have no inverse, one behind the other: of 0, of n and above, of what one prime of n's divides; all of Below's are counted.
func TestBlindOften(t *testing.T) {
	n := manyDivisors(53)
	size := sizeOf(n)
	var ahead []byte
	many := 0
	for _, p := range []uint64{3, 5, 7, 11, 13, 47, 53} {
		ahead = slices.Concat(ahead, bytesOf(small(p), size), make([]byte, size), bytesOf(new(big.Int).Div(n, small(p)), size), bytesOf(n, size), bytesOf(less(n, p), size))
		many += 5
	}
	for cutAt := 0; cutAt <= len(ahead); cutAt += size {
		b := slices.Concat(ahead[cutAt:], bytesOf(small(4), size), []byte{1, 2, 3})
		if got := askBlind(t, natOf(n), b); got != many-cutAt/size+1 {
			t.Errorf("%d draws, not %d", got, many-cutAt/size+1)
		}
		askBlind(t, natOf(n), b[:len(b)-4])
	}
}

// P2: whoever changes an answer changes no later one, and no argument that is changed changes an answer.
func TestBlindApart(t *testing.T) {
	for _, x := range []api.Nat{{15}, {15, 0}, full(3)} {
		n := slices.Clone(x)
		b := someBytes(spread(4), 300)
		first, _, _ := private.Blind(script.New(b), n)
		second, _, _ := private.Blind(script.New(b), n)
		want := slices.Clone(first)
		spoil(second)
		third, _, _ := private.Blind(script.New(b), n)
		spoil(n)
		spoil(b)
		if !slices.Equal(first, want) || !slices.Equal(third, want) {
			t.Errorf("Blind of %x: %x and %x, not %x", x, first, third, want)
		}
	}
}

// P22.1: r is what Blind answers, of the same script.
func TestApplyReadsAsBlind(t *testing.T) {
	for _, x := range slices.Concat(smallKeys(t)[:8], productKeys(t)) {
		next := spread(x.k.N[0])
		b := enough(next, x.k)
		ours, theirs := script.New(b), script.New(b)
		for {
			_, _, spent := private.Blind(theirs, x.k.N)
			_, wrong := private.Apply(nil, x.k, bytesOf(small(1), sizeOf(valueOf(x.k.N))), ours, api.Fault{})
			if ours.Left() != theirs.Left() || (wrong == api.ErrSpent) != (spent == api.ErrSpent) {
				t.Fatalf("%d left and error %d, not %d and %d", ours.Left(), wrong, theirs.Left(), spent)
			}
			if spent != api.OK {
				break
			}
		}
	}
}
