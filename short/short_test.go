package short_test

import (
	"slices"
	"testing"

	"sconce/api"
	"sconce/mont"
	"sconce/power"
	"sconce/short"
)

// raised is the power that Quick answers, which has to be a member; Exp has to answer the same of an exponent of one word.
func raised(t *testing.T, m api.Modulus, a, e api.Nat) api.Nat {
	t.Helper()
	got, err := short.Quick(m, a, e)
	if err != api.OK || len(got) != len(m.M) || !below(got, m.M) {
		t.Fatalf("Quick(%x, %x, %x): %x, %d", m.M, a, e, got, err)
	}
	if len(e) == 1 {
		if other := ofWord(t, m, a, e[0]); !slices.Equal(got, other) {
			t.Fatalf("Exp(%x, %x, %d): %x, but Quick has %x", m.M, a, e[0], other, got)
		}
	}
	return got
}

// ofWord is the power that Exp answers, which has to be a member.
func ofWord(t *testing.T, m api.Modulus, a api.Nat, e uint64) api.Nat {
	t.Helper()
	got, err := short.Exp(m, a, e)
	if err != api.OK || len(got) != len(m.M) || !below(got, m.M) {
		t.Fatalf("Exp(%x, %x, %d): %x, %d", m.M, a, e, got, err)
	}
	return got
}

// refused asks that Quick answers an error, and no number; and so Exp, if the exponent has one word.
func refused(t *testing.T, m api.Modulus, a, e api.Nat, want api.Errno) {
	t.Helper()
	if got, err := short.Quick(m, a, e); err != want || len(got) != 0 {
		t.Fatalf("Quick(%x, %x, %x): %x, %d, not %d", m, a, e, got, err, want)
	}
	if len(e) != 1 {
		return
	}
	if got, err := short.Exp(m, a, e[0]); err != want || len(got) != 0 {
		t.Fatalf("Exp(%x, %x, %d): %x, %d, not %d", m, a, e[0], got, err, want)
	}
}

// P9.1, P9.2 in numbers written out, the chapter's example among them.
func TestExamples(t *testing.T) {
	for _, c := range []struct{ m, a, e, want api.Nat }{
		{api.Nat{7}, api.Nat{3}, api.Nat{5}, api.Nat{5}},
		{api.Nat{7}, api.Nat{3}, nil, api.Nat{1}},
		{api.Nat{7}, api.Nat{3}, api.Nat{0}, api.Nat{1}},
		{api.Nat{7}, api.Nat{3}, api.Nat{0, 0, 0}, api.Nat{1}},
		{api.Nat{7}, api.Nat{0}, nil, api.Nat{1}},
		{api.Nat{7}, api.Nat{0}, api.Nat{0}, api.Nat{1}},
		{api.Nat{7}, api.Nat{0}, api.Nat{1}, api.Nat{0}},
		{api.Nat{7}, api.Nat{0}, api.Nat{0, 1}, api.Nat{0}},
		{api.Nat{7}, api.Nat{3}, api.Nat{1}, api.Nat{3}},
		{api.Nat{7}, api.Nat{3}, api.Nat{2}, api.Nat{2}},
		{api.Nat{7}, api.Nat{3}, api.Nat{3}, api.Nat{6}},
		{api.Nat{7}, api.Nat{3}, api.Nat{5, 0, 0}, api.Nat{5}},
		{api.Nat{7}, api.Nat{6}, api.Nat{top}, api.Nat{6}},
		{api.Nat{7}, api.Nat{6}, api.Nat{0, 1}, api.Nat{1}},
		// 2^63 is 2 and 2^64 is 4 modulo 6, the order of 3 modulo 7.
		{api.Nat{7}, api.Nat{3}, api.Nat{1 << 63}, api.Nat{2}},
		{api.Nat{7}, api.Nat{3}, api.Nat{top}, api.Nat{6}},
		{api.Nat{7}, api.Nat{3}, api.Nat{0, 1}, api.Nat{4}},
		{api.Nat{3}, api.Nat{2}, api.Nat{top}, api.Nat{2}},
		{api.Nat{9}, api.Nat{3}, api.Nat{2}, api.Nat{0}},
		{api.Nat{1000003}, api.Nat{2}, api.Nat{100}, api.Nat{253109}},
		{api.Nat{1000003}, api.Nat{2}, api.Nat{1000002}, api.Nat{1}},
		{api.Nat{1000003}, api.Nat{3}, api.Nat{65537}, api.Nat{486750}},
		{api.Nat{top}, api.Nat{2}, api.Nat{63}, api.Nat{1 << 63}},
		{api.Nat{top}, api.Nat{2}, api.Nat{64}, api.Nat{1}},
		{api.Nat{1, 1}, api.Nat{2, 0}, api.Nat{64}, api.Nat{0, 1}},
		{api.Nat{1, 1}, api.Nat{2, 0}, api.Nat{65}, api.Nat{top, 0}},
		{api.Nat{1, 1}, api.Nat{5, 0}, nil, api.Nat{1, 0}},
		{api.Nat{1, 1}, api.Nat{5, 0}, api.Nat{3}, api.Nat{125, 0}},
	} {
		if got := raised(t, set(t, c.m), c.a, c.e); !slices.Equal(got, c.want) {
			t.Errorf("Quick(%d, %d, %d): %d, not %d", c.m, c.a, c.e, got, c.want)
		}
	}
}

// P9.1
func TestExpAll(t *testing.T) {
	moduli(t, func(m api.Modulus, members []api.Nat) {
		for _, a := range members {
			for _, e := range shortExponents() {
				if got, want := ofWord(t, m, a, e), slowPower(a, api.Nat{e}, m.M); !slices.Equal(got, want) {
					t.Errorf("Exp(%x, %x, %x): %x, not %x", m.M, a, e, got, want)
				}
			}
		}
	})
}

// P9.2
func TestQuickAll(t *testing.T) {
	moduli(t, func(m api.Modulus, members []api.Nat) {
		for _, a := range members {
			for _, e := range exponents() {
				if got, want := raised(t, m, a, e), slowPower(a, e, m.M); !slices.Equal(got, want) {
					t.Errorf("Quick(%x, %x, %x): %x, not %x", m.M, a, e, got, want)
				}
			}
		}
	})
}

// P9.1, P9.2 modulo small numbers, with all of their members.
func TestSmall(t *testing.T) {
	for number := uint64(3); number < 24; number += 2 {
		m := set(t, api.Nat{number})
		for a := range number {
			want := uint64(1)
			for e := range uint64(40) {
				if got := raised(t, m, api.Nat{a}, api.Nat{e}); got[0] != want {
					t.Errorf("Quick(%d, %d, %d): %d, not %d", number, a, e, got, want)
				}
				want = want * a % number
			}
		}
	}
}

// P9.1, P9.2: a bit of the exponent counts wherever it stands.
func TestSingleBits(t *testing.T) {
	m := set(t, api.Nat{1<<61 - 1})
	want := api.Nat{3}
	for i := range 3 * 64 {
		e := single(3, i/64, 1<<(i%64))
		for _, words := range []int{3, i/64 + 1} {
			if got := raised(t, m, api.Nat{3}, e[:words]); !slices.Equal(got, want) {
				t.Errorf("3 to the power of 2 to the power of %d: %d, not %d", i, got, want)
			}
		}
		want = slowRest(slowMul(want, want), m.M)
	}
}

// P9.2: exponents of just MaxWords words and nearly so many.
func TestQuickLong(t *testing.T) {
	const n = api.MaxWords
	for _, x := range []api.Nat{{7}, {1000003}, mixture(1, 6), mixture(2, 6)} {
		m := set(t, x)
		a := slowRest(mixture(len(x), 8), m.M)
		for _, e := range []api.Nat{full(n), mixture(n, 1), single(n, n-1, 1<<63), single(n, n-1, 1), make(api.Nat, n), single(n, 0, 5), mixture(n-1, 2)} {
			if got, want := raised(t, m, a, e), slowPower(a, e, m.M); !slices.Equal(got, want) {
				t.Errorf("Quick(%x, %x) of %d words: %x, not %x", m.M, a, len(e), got, want)
			}
		}
	}
}

// P9.1, P9.2: moduli of just MaxModulus words.
func TestLongModuli(t *testing.T) {
	const n = api.MaxModulus
	for _, x := range odds(n) {
		m := set(t, x)
		a := slowRest(mixture(n, 9), m.M)
		want := single(n, 0, 1)
		for e := range uint64(6) {
			if got := raised(t, m, a, api.Nat{e}); !slices.Equal(got, want) {
				t.Errorf("Quick(%x, %x, %d): %x, not %x", m.M, a, e, got, want)
			}
			want = slowRest(slowMul(want, a), m.M)
		}
	}
	// 2^(64 n) is 1 modulo M, so the exponent counts modulo 64 n.
	m := set(t, full(n))
	if got := raised(t, m, single(n, 0, 2), api.Nat{64*n + 70, 0}); !slices.Equal(got, single(n, 1, 64)) {
		t.Errorf("a power of 2 modulo 2^(64 n) - 1: %x", got)
	}
}

// asPower asks that both answer what power.Exp answers, number and error.
func asPower(t *testing.T, m api.Modulus, a, e api.Nat) {
	t.Helper()
	want, wantErr := power.Exp(nil, m, a, e)
	if got, err := short.Quick(m, a, e); err != wantErr || !slices.Equal(got, want) {
		t.Fatalf("Quick(%x, %x, %x): %x, %d, but power.Exp has %x, %d", m, a, e, got, err, want, wantErr)
	}
	if len(e) != 1 {
		return
	}
	if got, err := short.Exp(m, a, e[0]); err != wantErr || !slices.Equal(got, want) {
		t.Fatalf("Exp(%x, %x, %d): %x, %d, but power.Exp has %x, %d", m, a, e[0], got, err, want, wantErr)
	}
}

// P9.3 of moduli and members.
func TestAnswersAsPower(t *testing.T) {
	moduli(t, func(m api.Modulus, members []api.Nat) {
		for _, a := range slices.Concat(members, strangersTo(m.M)) {
			for _, e := range exponents() {
				asPower(t, m, a, e)
			}
		}
	})
	m := set(t, mixture(20, 1))
	asPower(t, m, slowRest(mixture(20, 2), m.M), mixture(20, 3))
	m = set(t, mixture(1, 1))
	asPower(t, m, api.Nat{3}, mixture(api.MaxWords, 3))
}

// P9.3, P4 of what may not be, alone and together.
func TestErrorsAsPower(t *testing.T) {
	list := append(bogus(), set(t, api.Nat{7}), set(t, full(3)))
	list = append(list, wrong(set(t, api.Nat{7}))...)
	list = append(list, wrong(set(t, mixture(3, 1)))...)
	for _, m := range list {
		for _, a := range []api.Nat{nil, {0}, {6}, {7}, {1, 2, 3}, {1, 2, 3, 4}, full(3), make(api.Nat, len(m.M))} {
			for _, e := range []api.Nat{nil, {0}, {top}, {0, 1}, make(api.Nat, api.MaxWords+1), full(api.MaxWords + 1)} {
				asPower(t, m, a, e)
			}
		}
	}
}

// P9.2, P4: a modulus that is none and what is no member are named ahead of an exponent that is too long.
func TestQuickTooLong(t *testing.T) {
	for _, e := range []api.Nat{make(api.Nat, api.MaxWords+1), single(api.MaxWords+1, 0, 1), full(api.MaxWords + 1), full(50000)} {
		for _, x := range []api.Nat{{7}, full(3), full(api.MaxModulus)} {
			m := set(t, x)
			for _, a := range membersOf(m.M) {
				refused(t, m, a, e, api.ErrLong)
			}
			for _, a := range strangersTo(m.M) {
				refused(t, m, a, e, api.ErrRange)
			}
		}
		for _, m := range slices.Concat(bogus(), wrong(set(t, api.Nat{7})), wrong(set(t, full(3)))) {
			refused(t, m, make(api.Nat, len(m.M)), e, api.ErrRange)
		}
	}
}

// P9.1, P9.2: what is no member.
func TestStrangers(t *testing.T) {
	list := []api.Modulus{set(t, full(api.MaxModulus))}
	moduli(t, func(m api.Modulus, _ []api.Nat) {
		list = append(list, m)
	})
	for _, m := range list {
		for _, a := range strangersTo(m.M) {
			for _, e := range []api.Nat{nil, {0}, {1}, {65537}, {top}, {5, 6}} {
				refused(t, m, a, e, api.ErrRange)
			}
		}
	}
}

// P9.1, P9.2: moduli that mont.Check says no to.
func TestWrongModuli(t *testing.T) {
	list := bogus()
	for _, x := range []api.Nat{{7}, {top}, full(2), mixture(3, 1), with(single(4, 3, 1), 0, 1)} {
		list = append(list, wrong(set(t, x))...)
	}
	for _, m := range list {
		for _, a := range []api.Nat{nil, {0}, {1}, {0, 0}, make(api.Nat, len(m.M)), full(len(m.M))} {
			for _, e := range []api.Nat{nil, {0}, {1}, {5}, {top}, {0, 1}} {
				refused(t, m, a, e, api.ErrRange)
			}
		}
	}
}

// P9.1, P9.2: a square for each bit and a product for each 1, noughts at the top left out. Time isn't to be asked, but each product takes new memory, and so often as there are products.
func TestManyProducts(t *testing.T) {
	m := set(t, mixture(3, 1))
	a := api.Nat{3, 4, 0}
	one := testing.AllocsPerRun(20, func() { mont.Mul(nil, m, a, a) })
	if one < 1 {
		t.Fatalf("a product takes memory %v times", one)
	}
	of := func(e ...uint64) float64 {
		return testing.AllocsPerRun(20, func() { short.Quick(m, a, e) })
	}
	ofWord := func(e uint64) float64 {
		return testing.AllocsPerRun(20, func() { short.Exp(m, a, e) })
	}
	for _, c := range []struct {
		e        []uint64
		products float64
	}{
		{[]uint64{0}, 0}, {[]uint64{0, 0, 0}, 0}, {[]uint64{1}, 2}, {[]uint64{1, 0, 0}, 2}, {[]uint64{2}, 3}, {[]uint64{3}, 4}, {[]uint64{65537}, 19}, {[]uint64{65537, 0}, 19},
		{[]uint64{1 << 63}, 65}, {[]uint64{top}, 128}, {[]uint64{0, 1}, 66}, {[]uint64{top, 1}, 130}, {make([]uint64, api.MaxWords), 0},
	} {
		if got := of(c.e...) - of(); got != c.products*one {
			t.Errorf("Quick of %x: memory %v times, a product %v times, where there are %v products", c.e, got, one, c.products)
		}
		if len(c.e) > 1 {
			continue
		}
		if got := ofWord(c.e[0]) - ofWord(0); got != c.products*one {
			t.Errorf("Exp of %x: memory %v times, a product %v times, where there are %v products", c.e, got, one, c.products)
		}
	}
}

// P3: a nil list and an empty one are the same.
func TestNilAndEmpty(t *testing.T) {
	m := set(t, api.Nat{7})
	if got := raised(t, m, api.Nat{5}, api.Nat{}); !slices.Equal(got, raised(t, m, api.Nat{5}, nil)) {
		t.Errorf("Quick of an empty exponent: %d", got)
	}
	for _, a := range []api.Nat{nil, {}} {
		refused(t, m, a, nil, api.ErrRange)
		refused(t, m, a, api.Nat{1}, api.ErrRange)
	}
	for _, other := range []api.Modulus{{M: m.M, K: m.K, RR: api.Nat{}}, {M: m.M, K: m.K}, {M: api.Nat{}, K: m.K, RR: m.RR}, {K: m.K, RR: m.RR}} {
		refused(t, other, api.Nat{1}, api.Nat{1}, api.ErrRange)
	}
}

// behind is x in a list with more behind it, and that list.
func behind(x api.Nat) (api.Nat, api.Nat) {
	list := append(slices.Clone(x), 99, 98, 97, 96)
	return list[:len(x)], list
}

// spoil overwrites all of a number, what lies behind its length too.
func spoil(x api.Nat) {
	x = x[:cap(x)]
	for i := range x {
		x[i] = 77
	}
}

// P2: each number stands in a list with more behind it, of which nothing may be read, written or handed out.
func TestNothingChanged(t *testing.T) {
	good := set(t, with(full(3), 0, 5))
	for _, of := range []api.Modulus{good, {M: good.M, K: 4, RR: good.RR}, {M: api.Nat{2, 3, 4}, K: 4, RR: good.RR}, {M: full(131), K: 1, RR: full(131)}} {
		for _, a := range []api.Nat{{1, 2, 3}, {0, 0, 0}, {1, 0, 0}, {4, top, top}, full(3), {1, 2}, {1, 2, 3, 4}, nil} {
			for _, e := range []api.Nat{nil, {0}, {1}, {2}, {top, 3}, {5, 0}, make(api.Nat, 301)} {
				checkUnchanged(t, of, a, e)
			}
		}
	}
}

func checkUnchanged(t *testing.T, of api.Modulus, x, y api.Nat) {
	t.Helper()
	a, wholeA := behind(x)
	e, wholeE := behind(y)
	number, wholeM := behind(of.M)
	square, wholeRR := behind(of.RR)
	m := api.Modulus{M: number, K: of.K, RR: square}
	lists := []api.Nat{wholeA, wholeE, wholeM, wholeRR}
	var kept []api.Nat
	for _, list := range lists {
		kept = append(kept, slices.Clone(list))
	}
	want, wantErr := short.Quick(of, slices.Clone(x), slices.Clone(y))
	got, err := short.Quick(m, a, e)
	if err != wantErr || !slices.Equal(got, want) {
		t.Errorf("Quick reads what lies behind: %x, %d, not %x, %d", got, err, want, wantErr)
	}
	spoil(got)
	for _, w := range []uint64{0, 1, 2, 65537} {
		want, wantErr := short.Exp(of, slices.Clone(x), w)
		got, err := short.Exp(m, a, w)
		if err != wantErr || !slices.Equal(got, want) {
			t.Errorf("Exp reads what lies behind: %x, %d, not %x, %d", got, err, want, wantErr)
		}
		spoil(got)
	}
	for i, list := range lists {
		if !slices.Equal(list, kept[i]) {
			t.Errorf("%x was changed to %x", kept[i], list)
		}
	}
}

// P2, P3: what is answered is kept nowhere.
func TestAnswersAreNew(t *testing.T) {
	m := set(t, mixture(3, 1))
	for _, a := range membersOf(m.M) {
		for _, e := range exponents() {
			want := slices.Clone(raised(t, m, a, e))
			spoil(raised(t, m, a, e))
			if got := raised(t, m, a, e); !slices.Equal(got, want) {
				t.Errorf("Quick(%x, %x, %x) keeps what it answers", m.M, a, e)
			}
		}
	}
}

// P2: a number given twice, or one of the modulus's own, is an argument like others.
func TestOneNumberTwice(t *testing.T) {
	m := set(t, with(mixture(4, 3), 0, 11))
	for _, x := range []api.Nat{m.RR, with(m.M, 0, 10)} {
		want := raised(t, m, slices.Clone(x), slices.Clone(x))
		if got := raised(t, m, x, x); !slices.Equal(got, want) || !mont.Check(m) {
			t.Errorf("Quick of a number and itself: %x, not %x", got, want)
		}
	}
	if got, want := raised(t, m, m.RR, m.M), slowPower(m.RR, m.M, m.M); !slices.Equal(got, want) {
		t.Errorf("Quick of M as exponent: %x, not %x", got, want)
	}
	refused(t, m, m.M, m.M, api.ErrRange)
}
