package private_test

import (
	"bytes"
	"math"
	"math/big"
	"slices"
	"testing"

	"sconce/api"
	"sconce/private"
	"sconce/public"
	"sconce/script"
)

// place is where a fault may strike: the number that comes out there, in how many words, and its modulus.
type place struct {
	at      int
	number  *big.Int
	length  int
	modulus *big.Int
}

// placesOf are the four places of a power without a fault, with r as the script's bytes have it.
func placesOf(t *testing.T, k api.Key, c, b []byte) []place {
	t.Helper()
	r, _, wrong := plainBlind(&plainScript{b}, k.N)
	if wrong != api.OK {
		t.Fatalf("the script %x is spent", b)
	}
	done := plainCourse(k, c, r, api.Fault{})
	n, p, q := valueOf(k.N), valueOf(k.P), valueOf(k.Q)
	return []place{
		{api.FaultP, done.x, words(p), p},
		{api.FaultQ, done.y, words(q), q},
		{api.FaultCRT, done.z, len(k.N), n},
		{api.FaultOut, done.m, len(k.N), n},
	}
}

// othersOf are numbers that are not the right ones, but for chance: of no words, shorter than what they stand for, of its length, longer, with noughts at their top, below the modulus and not below it.
func othersOf(next func() uint64, x place) []api.Nat {
	return []api.Nat{
		nil, {}, {0}, {1}, {7}, {0, 0, 0, 0, 0, 0, 0}, {top},
		natOf(x.modulus), wordsOf(less(x.modulus, 1), x.length), wordsOf(sum(x.modulus, small(1)), x.length),
		full(x.length), full(x.length + 1), full(x.length + 300), full(max(x.length-1, 0)),
		append(make(api.Nat, x.length), 1), longer(api.Nat{5}, x.length+2),
		natOf(someBelow(next, x.modulus)), wordsOf(someBelow(next, x.modulus), x.length),
		wordsOf(sum(x.number, small(1)), x.length), wordsOf(sum(x.number, twos(64*x.length-1)), x.length),
	}
}

// rightOf are the right number itself: in its own length, without noughts at its top, with more of them, with words above that are cut off, and with the modulus added, as often as there is room.
func rightOf(x place) []api.Nat {
	own := wordsOf(x.number, x.length)
	list := []api.Nat{own, natOf(x.number), longer(own, 1), longer(own, 7), append(slices.Clone(own), 1), append(slices.Clone(own), top, 0, 3, top)}
	for _, many := range []uint64{1, 2, 1000} {
		if v := sum(x.number, times(x.modulus, small(many))); words(v) <= x.length {
			list = append(list, natOf(v), append(wordsOf(v, x.length), 9))
		}
	}
	return list
}

// hasRoom says whether the number and its modulus have room together where it comes out.
func hasRoom(x place) bool { return words(sum(x.number, x.modulus)) <= x.length }

// P22.1: a fault at each of the places, of keys whose halves are primes and of others: the right number, or ErrFault and noughts.
func TestFaults(t *testing.T) {
	t.Parallel()
	room := 0
	for _, x := range slices.Concat(smallKeys(t), unlikeKeys(t), productKeys(t)) {
		next := spread(x.k.N[0])
		n := valueOf(x.k.N)
		c, b := bytesOf(someBelow(next, n), sizeOf(n)), enough(next, x.k)
		for _, where := range placesOf(t, x.k, c, b) {
			for i, with := range othersOf(next, where) {
				if len(x.k.N) > 2 && i%3 != where.at%3 {
					continue
				}
				askApply(t, x.k, c, b, api.Fault{At: where.at, With: with})
			}
			for _, with := range rightOf(where) {
				wrong := askApply(t, x.k, c, b, api.Fault{At: where.at, With: with})
				if x.primes && wrong != api.OK {
					t.Fatalf("Apply(%x, %x, %x) with the right number %x at %d: error %d", x.k, c, b, with, where.at, wrong)
				}
			}
			if hasRoom(where) {
				room++
			}
		}
	}
	if room < 60 {
		t.Errorf("only %d numbers had room for their modulus", room)
	}
}

// TestFaultsOfTexts asks faults with texts about the edges, of which some are noughts as the fault's error has them.
func TestFaultsOfTexts(t *testing.T) {
	t.Parallel()
	for _, x := range []sample{smallKeys(t)[0], smallKeys(t)[20], unlikeKeys(t)[2], unlikeKeys(t)[7], productKeys(t)[1]} {
		next := spread(x.k.N[0])
		for _, c := range textsOf(next, x.k) {
			b := enough(next, x.k)
			for _, where := range placesOf(t, x.k, c, b) {
				for _, with := range []api.Nat{nil, {1}, full(where.length), wordsOf(where.number, where.length), wordsOf(less(where.modulus, 1), where.length)} {
					askApply(t, x.k, c, b, api.Fault{At: where.at, With: with})
				}
			}
		}
	}
}

// TestLongFaults asks faults of moduli of many words.
func TestLongFaults(t *testing.T) {
	t.Parallel()
	for _, x := range longKeys(t)[:4] {
		next := spread(x.k.N[0])
		n := valueOf(x.k.N)
		c, b := bytesOf(someBelow(next, n), sizeOf(n)), enough(next, x.k)
		for _, where := range placesOf(t, x.k, c, b) {
			own := wordsOf(where.number, where.length)
			for _, with := range []api.Nat{nil, {7}, own, append(slices.Clone(own), top), own[:len(own)-1], full(300)} {
				askApply(t, x.k, c, b, api.Fault{At: where.at, With: with})
			}
		}
	}
}

// TestOneBit asks faults that turn one bit alone over, at each place of the number.
func TestOneBit(t *testing.T) {
	for _, x := range []sample{smallKeys(t)[1], unlikeKeys(t)[6]} {
		next := spread(x.k.N[0])
		n := valueOf(x.k.N)
		c, b := bytesOf(someBelow(next, n), sizeOf(n)), enough(next, x.k)
		for _, where := range placesOf(t, x.k, c, b) {
			for i := range 64*where.length + 2 {
				with := wordsOf(where.number, where.length+1)
				with[i/64] ^= 1 << (i % 64)
				wrong := askApply(t, x.k, c, b, api.Fault{At: where.at, With: with})
				if want := i < 64*where.length; (wrong == api.ErrFault) != want {
					t.Fatalf("Apply(%x, %x, %x) with bit %d turned over at %d: error %d", x.k, c, b, i, where.at, wrong)
				}
			}
		}
	}
}

// P22.1: at places that are none of the four nothing strikes.
func TestNoPlace(t *testing.T) {
	for _, x := range []sample{smallKeys(t)[0], unlikeKeys(t)[0], longKeys(t)[0]} {
		next := spread(x.k.N[0])
		n := valueOf(x.k.N)
		c, b := bytesOf(someBelow(next, n), sizeOf(n)), enough(next, x.k)
		for _, at := range []int{0, -1, -2, -3, -4, -5, 5, 6, 7, 8, 255, 256, 257, 258, 1<<16 + 1, 1<<32 + 1, 1<<32 + 2, 1<<32 + 3, 1<<32 + 4, math.MaxInt, math.MaxInt - 1, math.MaxInt - 3, math.MinInt, math.MinInt + 1, math.MinInt + 4} {
			for _, with := range []api.Nat{nil, {0}, {7}, full(9)} {
				if wrong := askApply(t, x.k, c, b, api.Fault{At: at, With: with}); wrong != api.OK {
					t.Fatalf("Apply(%x, %x, %x) with a fault at %d: error %d", x.k, c, b, at, wrong)
				}
			}
		}
	}
}

// The chapter's example: a fault that replaces z by the right number changes nothing. And blinded it is: without r's power it is a wrong one, and so are the other numbers.
func TestRightNumber(t *testing.T) {
	for _, x := range append(smallKeys(t)[10:], longKeys(t)[0]) {
		n, p, q := valueOf(x.k.N), valueOf(x.k.P), valueOf(x.k.Q)
		c, b := bytesOf(small(1234567), sizeOf(n)), bytesOf(small(77), sizeOf(n))
		want, _ := private.Plain(x.k, c)
		m := new(big.Int).SetBytes(want)
		if back, _ := public.Apply(x.k.N, x.k.E, want); !bytes.Equal(back, c) {
			t.Fatalf("of %x comes %x, of which comes %x", c, want, back)
		}
		for _, with := range []struct {
			at           int
			blinded, not *big.Int
		}{
			{api.FaultP, rest(times(m, small(77)), p), rest(m, p)},
			{api.FaultQ, rest(times(m, small(77)), q), rest(m, q)},
			{api.FaultCRT, rest(times(m, small(77)), n), m},
			{api.FaultOut, m, rest(times(m, small(77)), n)},
		} {
			got, wrong := private.Apply(nil, x.k, c, script.New(b), api.Fault{At: with.at, With: natOf(with.blinded)})
			if wrong != api.OK || !bytes.Equal(got, want) {
				t.Errorf("Apply(%x, %x) with the right number at %d: %x, error %d, not %x", x.k, c, with.at, got, wrong, want)
			}
			got, wrong = private.Apply(nil, x.k, c, script.New(b), api.Fault{At: with.at, With: natOf(with.not)})
			if wrong != api.ErrFault || !bytes.Equal(got, make([]byte, len(c))) {
				t.Errorf("Apply(%x, %x) with a number that isn't blinded as it is at %d: %x, error %d", x.k, c, with.at, got, wrong)
			}
		}
	}
}

// P22.4, G3: of a key of primes what Plain answers, or ErrFault and noughts, whatever strikes.
func TestRightOrNothing(t *testing.T) {
	next := spread(99)
	for _, x := range slices.Concat(smallKeys(t), unlikeKeys(t), longKeys(t)[:3]) {
		n := valueOf(x.k.N)
		for range 12 {
			c, b := bytesOf(someBelow(next, n), sizeOf(n)), enough(next, x.k)
			f := api.Fault{At: int(next() % 6), With: wordsOf(new(big.Int).SetBytes(someBytes(next, int(next()%64))), int(next()%6))}
			want, _ := private.Plain(x.k, c)
			got, wrong := private.Apply(nil, x.k, c, script.New(b), f)
			if wrong == api.ErrFault && f.At%5 > 0 {
				want = make([]byte, len(c))
			} else if wrong != api.OK {
				t.Fatalf("Apply(%x, %x, %x, %d with %x): error %d", x.k, c, b, f.At, f.With, wrong)
			}
			if !bytes.Equal(got, want) {
				t.Fatalf("Apply(%x, %x, %x, %d with %x): %x, error %d, not %x", x.k, c, b, f.At, f.With, got, wrong, want)
			}
		}
	}
}

// TestWrongTogether asks errors that go ahead of a fault's: beside them there are no noughts.
func TestWrongTogether(t *testing.T) {
	x := smallKeys(t)[0]
	n := valueOf(x.k.N)
	fault := api.Fault{At: api.FaultOut, With: api.Nat{7}}
	for _, c := range []struct {
		k       api.Key
		c, b    []byte
		want    api.Errno
		answers int
	}{
		{api.Key{}, nil, nil, api.ErrKey, 0},
		{api.Key{}, bytesOf(n, 4), []byte{0, 0, 0, 3}, api.ErrKey, 0},
		{x.k, bytesOf(n, 4), nil, api.ErrRange, 0},
		{x.k, nil, []byte{0, 0, 0, 3}, api.ErrRange, 0},
		{x.k, []byte{0, 0, 0, 2}, []byte{0, 0, 3}, api.ErrSpent, 0},
		{x.k, []byte{0, 0, 0, 2}, []byte{0, 0, 0, 3}, api.ErrFault, 4},
	} {
		got, e := private.Apply(nil, c.k, c.c, script.New(c.b), fault)
		if e != c.want || !bytes.Equal(got, make([]byte, c.answers)) {
			t.Errorf("Apply(%x, %x, %x): %x, error %d, not %d noughts, error %d", c.k, c.c, c.b, got, e, c.answers, c.want)
		}
	}
}
