package private_test

import (
	"bytes"
	"math/big"
	"slices"
	"testing"

	"sconce/api"
	"sconce/private"
	"sconce/public"
	"sconce/script"
	"sconce/trace"
)

// enough is bytes for some draws of r.
func enough(next func() uint64, k api.Key) []byte {
	return someBytes(next, 40*sizeOf(valueOf(k.N)))
}

// textsOf are numbers about a key's edges, and others, in as many bytes as N needs: all of them are below N.
func textsOf(next func() uint64, k api.Key) [][]byte {
	n, p, q := valueOf(k.N), valueOf(k.P), valueOf(k.Q)
	var list [][]byte
	for _, v := range []*big.Int{
		small(0), small(1), small(2), less(n, 1), less(n, 2), p, q, times(p, small(2)), times(p, less(q, 1)), times(q, less(p, 1)), sum(p, q),
		someBelow(next, n), someBelow(next, n), times(p, someBelow(next, q)), times(q, someBelow(next, p)),
	} {
		list = append(list, bytesOf(v, sizeOf(n)))
	}
	return list
}

// P22.1, P22.2, P22.4: without a fault the right number, whatever c is, which public.Apply undoes; of halves that are no primes what the chapter's words come to.
func TestAgainstWords(t *testing.T) {
	t.Parallel()
	for _, x := range slices.Concat(smallKeys(t), unlikeKeys(t), productKeys(t)) {
		t.Run(x.what, func(t *testing.T) {
			next := spread(x.k.N[0])
			for _, c := range textsOf(next, x.k) {
				askBoth(t, x, c, enough(next, x.k))
			}
		})
	}
	for _, x := range longKeys(t) {
		t.Run(x.what, func(t *testing.T) {
			next := spread(x.k.N[0])
			texts := textsOf(next, x.k)
			for _, place := range []int{0, 3, 5, 6, 11} {
				askBoth(t, x, texts[place], enough(next, x.k))
			}
		})
	}
}

// TestGreat asks moduli of up to 8192 bits, once each.
func TestGreat(t *testing.T) {
	t.Parallel()
	for _, x := range greatKeys(t) {
		t.Run(x.what, func(t *testing.T) {
			next := spread(x.k.N[0])
			n := valueOf(x.k.N)
			c, b := bytesOf(someBelow(next, n), sizeOf(n)), enough(next, x.k)
			got, wrong := private.Apply(nil, x.k, c, script.New(b), api.Fault{At: api.FaultNone, With: api.Nat{7}})
			plain, unfit := private.Plain(x.k, c)
			if wrong != api.OK || unfit != api.OK || !bytes.Equal(got, plain) {
				t.Errorf("Apply and Plain: %x, error %d, and %x, error %d", got, wrong, plain, unfit)
			}
			if back, _ := public.Apply(x.k.N, x.k.E, got); !bytes.Equal(back, c) {
				t.Errorf("of %x comes %x, of which comes %x", c, got, back)
			}
			got, wrong = private.Apply(nil, x.k, c, script.New(b), api.Fault{At: api.FaultQ, With: api.Nat{7}})
			if wrong != api.ErrFault || !bytes.Equal(got, make([]byte, len(c))) {
				t.Errorf("Apply with a fault: %x, error %d", got, wrong)
			}
		})
	}
}

// askBoth asks Apply and Plain of one text, and of a key of primes that both answer the same, which public.Apply undoes.
func askBoth(t *testing.T, x sample, c, b []byte) {
	t.Helper()
	wrong := askApply(t, x.k, c, b, api.Fault{})
	askPlain(t, x.k, c)
	if !x.primes {
		return
	}
	if wrong != api.OK {
		t.Fatalf("Apply(%x, %x, %x): error %d", x.k, c, b, wrong)
	}
	got, _ := private.Apply(nil, x.k, c, script.New(b), api.Fault{})
	plain, _ := private.Plain(x.k, c)
	back, wrong := public.Apply(x.k.N, x.k.E, got)
	if wrong != api.OK || !bytes.Equal(back, c) || !bytes.Equal(got, plain) {
		t.Fatalf("of %x comes %x, and %x, of which comes %x, error %d", c, got, plain, back, wrong)
	}
}

// TestByHand asks fifth powers that stay below N, of which anybody sees the roots; 65537 and 65539 are primes.
func TestByHand(t *testing.T) {
	k, is := plainOf(api.Nat{65537}, api.Nat{65539}, 5)
	if !is {
		t.Fatal("there is no key")
	}
	for _, x := range []struct{ c, want []byte }{
		{[]byte{0, 0, 0, 0, 0}, []byte{0, 0, 0, 0, 0}},
		{[]byte{0, 0, 0, 0, 1}, []byte{0, 0, 0, 0, 1}},
		{[]byte{0, 0, 0, 0, 32}, []byte{0, 0, 0, 0, 2}},
		{[]byte{0, 0, 0, 0, 243}, []byte{0, 0, 0, 0, 3}},
		{[]byte{0, 0, 1, 134, 160}, []byte{0, 0, 0, 0, 10}},
		{[]byte{0, 64, 0, 0, 0}, []byte{0, 0, 0, 0, 64}},
	} {
		got, wrong := private.Apply(nil, k, x.c, script.New([]byte{0, 0, 0, 0, 3}), api.Fault{})
		plain, unfit := private.Plain(k, x.c)
		if wrong != api.OK || unfit != api.OK || !bytes.Equal(got, x.want) || !bytes.Equal(plain, x.want) {
			t.Errorf("of %x: %x, error %d, and %x, error %d, not %x", x.c, got, wrong, plain, unfit, x.want)
		}
	}
}

// wrongKeys are keys one number of which is changed, or has noughts at its top that it may not have, or is shorter.
func wrongKeys(k api.Key) []api.Key {
	list := []api.Key{{}, {N: k.N, E: k.E}, {P: k.P, Q: k.Q, E: k.E}}
	for i := range 7 {
		for _, change := range []func(api.Nat) api.Nat{
			func(x api.Nat) api.Nat { return append(x, 0) },
			func(x api.Nat) api.Nat { return append(x, 0, 0, 0) },
			func(x api.Nat) api.Nat { return append(x, 1) },
			func(x api.Nat) api.Nat { return x[:len(x)-1] },
			func(x api.Nat) api.Nat { return nil },
			func(x api.Nat) api.Nat { return make(api.Nat, len(x)) },
			func(x api.Nat) api.Nat { return full(len(x)) },
			func(x api.Nat) api.Nat { return append(x, make(api.Nat, 301-len(x))...) },
			func(x api.Nat) api.Nat { x[0] ^= 1; return x },
			func(x api.Nat) api.Nat { x[0] ^= 2; return x },
			func(x api.Nat) api.Nat { x[len(x)-1] ^= 1 << 63; return x },
		} {
			other := copied(k)
			x := numbersOf(&other)[i]
			*x = change(*x)
			list = append(list, other)
		}
	}
	for _, e := range []uint64{0, 1, 2, k.E - 1, k.E + 1, k.E + 2, k.E - 2, 1 << 32, k.E | 1<<40, top} {
		other := copied(k)
		other.E = e
		list = append(list, other)
	}
	swapped := copied(k)
	swapped.P, swapped.Q = swapped.Q, swapped.P
	return append(list, swapped)
}

// P22.1, P22.2: key.Check's error goes ahead of all others, and no byte of the script is read.
func TestKeyError(t *testing.T) {
	t.Parallel()
	for _, x := range slices.Concat(smallKeys(t)[:3], unlikeKeys(t)[:4], productKeys(t)[:2], longKeys(t)[:1]) {
		n := valueOf(x.k.N)
		size := sizeOf(n)
		for _, k := range wrongKeys(x.k) {
			for _, c := range [][]byte{nil, bytesOf(small(2), size), bytesOf(n, size), make([]byte, sizeOf(valueOf(k.N)))} {
				for _, b := range [][]byte{nil, someBytes(spread(1), 10*size)} {
					if wrong := askApply(t, k, c, b, api.Fault{At: 1, With: api.Nat{7}}); wrong != api.ErrKey {
						t.Fatalf("Apply(%x, %x): error %d", k, c, wrong)
					}
				}
				askPlain(t, k, c)
			}
		}
	}
}

// P22.1, P22.2: c of another length than N needs, noughts at its front among them, and of numbers that aren't below N; no byte of the script is read, and a script that is spent doesn't matter yet.
func TestRangeError(t *testing.T) {
	t.Parallel()
	for _, x := range slices.Concat(smallKeys(t), unlikeKeys(t), productKeys(t), longKeys(t)[:3]) {
		n := valueOf(x.k.N)
		size := sizeOf(n)
		list := [][]byte{nil, {}, {0}, {1}, bytesOf(n, size), bytesOf(sum(n, small(1)), size), bytesOf(sum(n, small(2)), size), bytesOf(times(n, small(2)), size), bytesOf(n, 8*len(x.k.N)+1), bytes.Repeat([]byte{255}, 8*len(x.k.N)+1)}
		if all := bytes.Repeat([]byte{255}, size); n.BitLen() == 8*size {
			list = append(list, all)
		}
		for _, v := range []*big.Int{small(0), small(1), less(n, 1)} {
			b := bytesOf(v, size)
			list = append(list, b[1:], b[:size-1], append([]byte{0}, b...), append([]byte{0, 0, 0}, b...), append(slices.Clone(b), 0), bytesOf(v, 2400), bytesOf(v, 2401))
		}
		for _, c := range list {
			for _, b := range [][]byte{nil, someBytes(spread(2), 3*size)} {
				if wrong := askApply(t, x.k, c, b, api.Fault{At: 4, With: api.Nat{1}}); wrong != api.ErrRange {
					t.Fatalf("Apply(%x, %x): error %d", x.k, c, wrong)
				}
			}
			askPlain(t, x.k, c)
		}
	}
}

// TestEdgeOfRange asks numbers that are below N or not in one bit alone.
func TestEdgeOfRange(t *testing.T) {
	t.Parallel()
	for _, x := range slices.Concat(smallKeys(t)[:9], unlikeKeys(t)[:6]) {
		n := valueOf(x.k.N)
		for i := range 8 * sizeOf(n) {
			v := new(big.Int).SetBit(n, i, 1-n.Bit(i))
			c := bytesOf(v, sizeOf(n))
			want := api.OK
			if v.Cmp(n) > 0 {
				want = api.ErrRange
			}
			if wrong := askApply(t, x.k, c, enough(spread(uint64(i)), x.k), api.Fault{}); wrong != want {
				t.Fatalf("Apply(%x, %x): error %d", x.k, c, wrong)
			}
			askPlain(t, x.k, c)
		}
	}
}

// drawsOf are bytes of draws of r, of which none is taken: of 0, of N and above, of what P or Q divides.
func drawsOf(next func() uint64, k api.Key) [][]byte {
	n, p, q := valueOf(k.N), valueOf(k.P), valueOf(k.Q)
	var list [][]byte
	for _, v := range []*big.Int{small(0), p, q, times(p, less(q, 1)), times(q, less(p, 1)), n, times(p, sum(someBelow(next, less(q, 1)), small(1)))} {
		list = append(list, bytesOf(v, sizeOf(n)))
	}
	if n.BitLen()%8 > 0 {
		// Bits that N doesn't have are made 0.
		above := bytesOf(p, sizeOf(n))
		above[0] |= 128
		list = append(list, above)
	}
	return list
}

// P22.1: what is left of the script, whatever draws it took, and ErrSpent, wherever bytes run out.
func TestScripts(t *testing.T) {
	t.Parallel()
	for _, x := range slices.Concat(smallKeys(t)[:4], unlikeKeys(t)[:5], productKeys(t)[:4], longKeys(t)[:1]) {
		next := spread(x.k.N[0])
		n := valueOf(x.k.N)
		size := sizeOf(n)
		c, taken := bytesOf(someBelow(next, n), size), bytesOf(small(3*5*7*11*13*17*19*23*29+2), size)
		if r := new(big.Int).SetBytes(taken); r.Cmp(n) >= 0 || divisor(r, n).Cmp(small(1)) != 0 {
			taken = bytesOf(less(n, 1), size)
		}
		for _, ahead := range append(drawsOf(next, x.k), nil, slices.Concat(drawsOf(next, x.k)...)) {
			whole := slices.Concat(ahead, taken, []byte{9, 8, 7})
			if wrong := askApply(t, x.k, c, whole, api.Fault{}); wrong != api.OK && wrong != api.ErrFault {
				t.Fatalf("Apply(%x, %x, %x): error %d", x.k, c, whole, wrong)
			}
			for many := range len(ahead) + size {
				if len(ahead) > size && many%7 > 0 {
					continue
				}
				if wrong := askApply(t, x.k, c, whole[:many], api.Fault{At: 2}); wrong != api.ErrSpent {
					t.Fatalf("Apply(%x, %x, %x): error %d", x.k, c, whole[:many], wrong)
				}
			}
		}
	}
}

// TestGoesOn asks one script again and again: each call goes on where the one ahead ended.
func TestGoesOn(t *testing.T) {
	x := smallKeys(t)[3]
	next := spread(5)
	b := enough(next, x.k)
	s, left := script.New(b), &plainScript{b}
	for {
		c := bytesOf(someBelow(next, valueOf(x.k.N)), sizeOf(valueOf(x.k.N)))
		want, wrong := plainApply(x.k, c, left, api.Fault{})
		got, is := private.Apply(nil, x.k, c, s, api.Fault{})
		if is != wrong || !bytes.Equal(got, want) || s.Left() != len(left.left) {
			t.Fatalf("%x, error %d, %d left, not %x, error %d, %d left", got, is, s.Left(), want, wrong, len(left.left))
		}
		if wrong == api.ErrSpent {
			return
		}
	}
}

// TestNoScript asks scripts without bytes, nobody's script among them: ErrSpent.
func TestNoScript(t *testing.T) {
	x := smallKeys(t)[0]
	for _, s := range []*script.Script{nil, {}, script.New(nil), script.New([]byte{})} {
		if got, e := private.Apply(trace.New(), x.k, []byte{0, 0, 0, 2}, s, api.Fault{}); e != api.ErrSpent || len(got) > 0 {
			t.Errorf("Apply without a script: %x, error %d", got, e)
		}
		if got, many, e := private.Blind(s, x.k.N); e != api.ErrSpent || many != 0 || len(got) > 0 {
			t.Errorf("Blind without a script: %x, %d draws, error %d", got, many, e)
		}
	}
}

// P2: whoever changes an answer, with what lies behind it, changes no earlier and no later one; an argument that is changed behind the call changes no answer.
func TestApart(t *testing.T) {
	for _, x := range append(smallKeys(t)[:3], longKeys(t)[0]) {
		n := valueOf(x.k.N)
		b := enough(spread(7), x.k)
		for _, v := range []*big.Int{small(0), small(1), less(n, 1), small(77)} {
			for _, f := range []api.Fault{{}, {At: 1, With: api.Nat{7}}} {
				k, c := copied(x.k), bytesOf(v, sizeOf(n))
				want, _ := plainApply(k, c, &plainScript{b}, f)
				plain, _ := plainPlain(k, c)
				first, _ := private.Apply(nil, k, c, script.New(b), f)
				second, _ := private.Apply(nil, k, c, script.New(b), f)
				firstPlain, _ := private.Plain(k, c)
				secondPlain, _ := private.Plain(k, c)
				spoil(second)
				spoil(secondPlain)
				third, _ := private.Apply(nil, k, c, script.New(b), f)
				thirdPlain, _ := private.Plain(k, c)
				for _, number := range numbersOf(&k) {
					spoil(*number)
				}
				spoil(c)
				if !bytes.Equal(first, want) || !bytes.Equal(third, want) || !bytes.Equal(firstPlain, plain) || !bytes.Equal(thirdPlain, plain) {
					t.Errorf("%x and %x, not %x; %x and %x, not %x", first, third, want, firstPlain, thirdPlain, plain)
				}
			}
		}
	}
}
