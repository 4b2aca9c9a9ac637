package key_test

import (
	"slices"
	"testing"

	"sconce/api"
	"sconce/key"
)

// askOf asks for the key of p, q and e, which the chapter's words say is or isn't there; whether it was.
func askOf(t *testing.T, p, q api.Nat, e uint64) bool {
	t.Helper()
	if !plainIs(p, q, e) {
		askNone(t, p, q, e)
		return false
	}
	k := made(t, p, q, e)
	for _, what := range broken(k, p, q, e) {
		t.Errorf("Of(%x, %x, %d): %x; it isn't so that %s", p, q, e, k, what)
	}
	return true
}

// made is a key that has to be there.
func made(t *testing.T, p, q api.Nat, e uint64) api.Key {
	t.Helper()
	k, wrong := key.Of(p, q, e)
	if wrong != api.OK {
		t.Fatalf("Of(%x, %x, %d): %d", p, q, e, wrong)
	}
	return k
}

// askNone asks for a key that isn't there: ErrKey, and nothing beside it.
func askNone(t *testing.T, p, q api.Nat, e uint64) {
	t.Helper()
	k, wrong := key.Of(p, q, e)
	if wrong != api.ErrKey || !sameKeys(k, api.Key{}) {
		t.Errorf("Of(%x, %x, %d): %x, %d", p, q, e, k, wrong)
	}
}

// sampleKeys are keys written out, reckoned elsewhere.
func sampleKeys(t *testing.T) []api.Key {
	t.Helper()
	one := func(w uint64) api.Nat { return api.Nat{w} }
	first, second := one(top-58), api.Nat{13, 1}
	n, d := shown(t, "0xffffffffffffffd1fffffffffffffd01"), shown(t, "0x32e64d19b2e64d1027b7d84827b7d7b9")
	great, small := ones(127, 1), one(1<<61-1)
	return []api.Key{
		{N: one(0xfff1fff1), E: 17, D: one(0x877f0f1), P: one(65521), Q: one(65537), DP: one(0x7871), DQ: one(0xf0f1), QI: one(0xeff2)},
		{N: one(0xfff1fff1), E: 17, D: one(0x877f0f1), P: one(65537), Q: one(65521), DP: one(0xf0f1), DQ: one(0x7871), QI: one(0x1000)},
		{N: one(0x8002e60d), E: 3, D: one(0x155594ab), P: one(0xb50d), Q: one(0xb501), DP: one(0x78b3), DQ: one(0x78ab), QI: one(0x4b70)},
		{N: one(0x17ffffffd), E: 5, D: one(0x66666665), P: one(1<<31 - 1), Q: one(3), DP: one(0x66666665), DQ: one(1), QI: one(0x55555555)},
		{N: one(0x17ffffffd), E: 5, D: one(0x66666665), P: one(3), Q: one(1<<31 - 1), DP: one(1), DQ: one(0x66666665), QI: one(1)},
		// 1 is the inverse of an e that is 1 above Common(p, q), which is 196,608 here; the next e is far above it.
		{N: one(0x180028001), E: 196609, D: one(1), P: one(65537), Q: one(98305), DP: one(1), DQ: one(1), QI: one(0xffff)},
		{N: one(0x180028001), E: 1<<32 - 5, D: one(0x23333), P: one(65537), Q: one(98305), DP: one(0x3333), DQ: one(0xb333), QI: one(0xffff)},
		// Neither of these is a prime: they are 35 times 1009 and 33 times 2003.
		{N: one(0x8b226169), E: 17, D: one(0x28eb8a05), P: one(0x89f3), Q: one(0x10233), DP: one(0x5125), DQ: one(0x7981), QI: one(0x6e27)},
		// Primes about 2^64, the one of a word, the other of two.
		{N: n, E: 65537, D: d, P: longer(first, 1), Q: second, DP: api.Nat{0x15b1ea4e15b1ea49, 0}, DQ: api.Nat{0xc4ec3b13c4ec3b1d, 0}, QI: api.Nat{0xee38e38e38e38e02, 0}},
		{N: n, E: 65537, D: d, P: second, Q: longer(first, 1), DP: api.Nat{0xc4ec3b13c4ec3b1d, 0}, DQ: api.Nat{0x15b1ea4e15b1ea49, 0}, QI: api.Nat{0x11c71c71c71c71c8, 0}},
		{N: shown(t, "0xfffffffffffffff7fffffffffffffffe000000000000001"), E: 257, D: shown(t, "0x7561fb7a5d00755aa55aa55aa55aa558cfd2b7713158d"),
			P: great, Q: longer(small, 1), DP: shown(t, "0x55aa55aa55aa55aa55aa55aa55aa55a9"), DQ: api.Nat{0x1788778877887787, 0}, QI: shown(t, "0x4210842108421082108421084210841")},
		{N: shown(t, "0xfffffffffffffff7fffffffffffffffe000000000000001"), E: 257, D: shown(t, "0x7561fb7a5d00755aa55aa55aa55aa558cfd2b7713158d"),
			P: longer(small, 1), Q: great, DP: api.Nat{0x1788778877887787, 0}, DQ: shown(t, "0x55aa55aa55aa55aa55aa55aa55aa55a9"), QI: api.Nat{0x1ef7bdef7bdef7bd, 0}},
	}
}

// P19.2 in numbers written out, each as it stands and with noughts at the top of either.
func TestOf(t *testing.T) {
	for _, want := range sampleKeys(t) {
		p, q := cut(want.P), cut(want.Q)
		for _, c := range []struct{ p, q api.Nat }{
			{p, q}, {want.P, want.Q}, {longer(p, 1), q}, {p, longer(q, 1)}, {longer(p, 7), longer(q, 5)},
			{longer(p, 131-len(p)), longer(q, 131-len(q))}, {longer(p, 300-len(p)), longer(q, 300-len(q))},
		} {
			got, e := key.Of(c.p, c.q, want.E)
			if e != api.OK || !sameKeys(got, want) {
				t.Errorf("Of(%x, %x, %d): %x, %d, not %x", c.p, c.q, want.E, got, e, want)
			}
		}
		askNone(t, longer(p, 301-len(p)), q, want.E)
		askNone(t, p, longer(q, 301-len(q)), want.E)
	}
}

// somePairs are p and q of one word, of which many may be a key's.
func somePairs() []api.Nat {
	return []api.Nat{
		nil, {}, {0}, {0, 0}, {1}, {1, 0}, {2}, {3}, {4}, {5}, {7}, {9}, {15}, {255}, {256}, {257},
		{46337}, {46339}, {46341}, {46349}, {65519}, {65520}, {65521}, {65533}, {65535}, {65536}, {65537}, {65539}, {98305},
		{3 * 65537}, {5 * 65521}, {65521 * 65537}, {65537 * 65537}, {1<<31 - 1}, {1<<31 + 1}, {1<<32 - 1}, {1<<32 - 5}, {1 << 32}, {1<<32 + 1}, {1<<63 + 1}, {top - 58}, {top - 1}, {top},
		{0, 1}, {1, 1}, {2, 1}, {13, 1}, {top, 1}, {top, top}, {65521, 0}, {65537, 0, 0},
	}
}

// P19.2 against the chapter's words: each pair of some numbers, with each exponent.
func TestOfAgainstWords(t *testing.T) {
	there, none := 0, 0
	for _, p := range somePairs() {
		for _, q := range somePairs() {
			for _, e := range slices.Concat(rightExponents, []uint64{0, 1, 2, 4, 11, 13, 15, 65536, 65538, 196609, 1 << 32, 1<<32 + 1, top}) {
				if askOf(t, p, q, e) {
					there++
				} else {
					none++
				}
			}
		}
	}
	if there < 5000 || none < 5000 {
		t.Errorf("%d of them have a key, %d have none", there, none)
	}
}

// P19.2: numbers about 2^15.5, whose product has 31 to 33 bits, with the least exponents.
func TestOfSmallest(t *testing.T) {
	seen := make([]int, 65)
	for p := uint64(46335); p < 46350; p++ {
		for _, q := range []uint64{3, 23171, 46327, 46333, 46335, 46337, 46339, 46341, 46343, 46345, 92677, 92679, 92681, 92683, 92685, 92687} {
			for e := uint64(3); e < 20; e += 2 {
				if askOf(t, api.Nat{p}, api.Nat{q}, e) {
					seen[widthOf(api.Nat{p * q})]++
				}
			}
		}
	}
	for width, many := range seen {
		if (width == 32 || width == 33) != (many > 0) {
			t.Errorf("%d keys of %d bits", many, width)
		}
	}
	// 46,337 46,343 has 31 bits, 3 715,827,883 is 2^31 + 1.
	askNone(t, api.Nat{46337}, api.Nat{46343}, 5)
	if !askOf(t, api.Nat{3}, api.Nat{715827883}, 5) || !askOf(t, api.Nat{715827883}, api.Nat{3}, 5) {
		t.Error("2^31 + 1 is no key's modulus")
	}
}

// P19.2: products of 8191, 8192 and 8193 bits, of halves that are as long as each other and of such as aren't.
func TestOfGreatest(t *testing.T) {
	for _, c := range []struct {
		p, q  api.Nat
		width int
	}{
		{ones(4096, 1), ones(4095, 1), 8191},
		{ones(4096, 1), ones(4096, 3), 8192},
		{ones(4096, 3), ones(4096, 1), 8192},
		{more(power(4096), api.Nat{1}), ones(4096, 1), 8192},
		{ones(4096, 1), more(power(4096), api.Nat{1}), 8192},
		{more(power(4096), api.Nat{1}), more(power(4096), api.Nat{3}), 8193},
		{ones(4097, 1), ones(4096, 1), 8193},
		{api.Nat{3}, ones(8189, 1), 8191},
		{api.Nat{3}, ones(8191, 1), 8193},
		{api.Nat{5}, ones(8190, 1), 8193},
		{api.Nat{5}, ones(8189, 1), 8192},
		{ones(8189, 1), api.Nat{5}, 8192},
		{ones(64, 1), ones(8127, 1), 8191},
		{ones(65, 1), ones(8127, 1), 8192},
		{ones(65, 1), ones(8128, 1), 8193},
		{ones(4161, 1), ones(4160, 1), 8321},
		{ones(8192, 1), api.Nat{7}, 8195},
		{ones(8192, 1), ones(8191, 1), 16383},
	} {
		if width := widthOf(slowMul(c.p, c.q)); width != c.width {
			t.Fatalf("a product has %d bits, not %d", width, c.width)
		}
		there := 0
		for _, e := range []uint64{7, 11, 65537} {
			if askOf(t, c.p, c.q, e) {
				there++
			}
		}
		if (there > 0) != (c.width <= api.MaxBits) {
			t.Errorf("%d keys of %d bits", there, c.width)
		}
	}
}

// P19.2: what is too great, too long or even in either place, beside what may be.
func TestOfTooLong(t *testing.T) {
	right := []api.Nat{{3}, {65537}, {top - 58}, ones(4096, 1), longer(api.Nat{65537}, 299)}
	for _, wrong := range []api.Nat{
		ones(8193, 1), more(power(8192), api.Nat{1}), full(129), full(130), full(131), full(300), full(301), full(1000),
		longer(api.Nat{65521}, 300), longer(full(64), 237), make(api.Nat, 300), make(api.Nat, 301), power(4096), power(4095), append(api.Nat{0}, full(64)...),
	} {
		for _, other := range append(right, wrong) {
			askNone(t, wrong, other, 65537)
			askNone(t, other, wrong, 65537)
		}
	}
}

// P19.2: the same number twice, with and without noughts at its top, and numbers of which one divides the other or both have a divisor.
func TestOfTogether(t *testing.T) {
	next := spread(5)
	for _, width := range []int{16, 17, 31, 32, 33, 64, 65, 200} {
		x := someOdd(next, width)
		for _, noughts := range []int{0, 1, 5, 300 - len(x)} {
			askNone(t, x, longer(x, noughts), 65537)
			askNone(t, longer(x, noughts), x, 65537)
			askNone(t, longer(x, noughts), longer(x, noughts), 65537)
		}
		for _, times := range []api.Nat{{3}, {5}, {65537}, {top - 58}} {
			askNone(t, x, slowMul(x, times), 65537)
			askNone(t, slowMul(x, times), x, 65537)
		}
		a, b := someOdd(next, width), someOdd(next, width+1)
		askNone(t, slowMul(x, a), slowMul(x, b), 65537)
		askNone(t, slowMul(a, x), slowMul(b, x), 17)
	}
}

// P19.2 of halves of many lengths, in both orders, with exponents of which some have a divisor together with Common(p, q).
func TestOfLengths(t *testing.T) {
	next := spread(6)
	there, none := 0, 0
	for _, width := range []int{9, 32, 63, 64, 65, 100, 128, 129, 192, 512, 1000} {
		for _, other := range []int{24, 60, 64, 65, 128, 190, 256, 300, 513} {
			p, q := someOdd(next, width), someOdd(next, other)
			for _, e := range []uint64{3, 5, 17, 65537, next()%(1<<32) | 1} {
				if askOf(t, p, q, e) != askOf(t, q, p, e) {
					t.Errorf("of %x and %x there is a key in one order alone", p, q)
				}
				if askOf(t, longer(p, 3), q, e) {
					there++
				} else {
					none++
				}
			}
		}
	}
	if there < 50 || none < 50 {
		t.Errorf("%d of them have a key, %d have none", there, none)
	}
}

// P2: p and q stand in lists with more around them, of which nothing is read or written; a number of a key that is changed changes no other number, no argument and no later answer.
func TestOfSharesNothing(t *testing.T) {
	for _, want := range sampleKeys(t) {
		for _, noughts := range []int{0, 1} {
			all, p := room(longer(want.P, noughts), top)
			rest, q := room(longer(want.Q, noughts), 1)
			before, behind := slices.Clone(all), slices.Clone(rest)
			for place := range numbersOf(&want) {
				got, e := key.Of(p, q, want.E)
				if e != api.OK || !sameKeys(got, want) {
					t.Fatalf("Of(%x, %x, %d): %x, %d, not %x", p, q, want.E, got, e, want)
				}
				spoil(*numbersOf(&got)[place])
				*numbersOf(&got)[place] = *numbersOf(&want)[place]
				if !sameKeys(got, want) {
					t.Errorf("number %d shares memory with another one", place)
				}
				if !slices.Equal(all, before) || !slices.Equal(rest, behind) {
					t.Fatal("an argument or what is beside it is changed")
				}
			}
		}
	}
}

// P2: the one list as both numbers, and what is refused, leave all as it is.
func TestOfRefusedLeavesAll(t *testing.T) {
	for _, x := range somePairs() {
		all, piece := room(x, top)
		before := slices.Clone(all)
		askNone(t, piece, piece, 65537)
		askNone(t, piece, api.Nat{65537}, 2)
		askNone(t, api.Nat{65537}, piece, 1)
		if !slices.Equal(all, before) {
			t.Fatalf("%x or what is beside it is changed", x)
		}
	}
}

// spoil changes each word of x, and what is behind it as far as it may be reached.
func spoil(x api.Nat) {
	x = x[:cap(x)]
	for i := range x {
		x[i] ^= top
	}
}
