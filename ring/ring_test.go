package ring_test

import (
	"slices"
	"testing"

	"sconce/api"
	"sconce/trace"
)

// P7.1 to P7.4 in numbers written out, the chapter's example among them.
func TestExamples(t *testing.T) {
	for _, c := range []struct {
		name    string
		m, a, b api.Nat
		want    api.Nat
	}{
		{"Add", api.Nat{7}, api.Nat{5}, api.Nat{4}, api.Nat{2}},
		{"Add", api.Nat{7}, api.Nat{3}, api.Nat{3}, api.Nat{6}},
		{"Add", api.Nat{7}, api.Nat{3}, api.Nat{4}, api.Nat{0}},
		{"Add", api.Nat{7}, api.Nat{6}, api.Nat{6}, api.Nat{5}},
		{"Add", api.Nat{top}, api.Nat{top - 1}, api.Nat{top - 1}, api.Nat{top - 2}},
		{"Add", api.Nat{1, 1}, api.Nat{top, 0}, api.Nat{1, 0}, api.Nat{0, 1}},
		{"Add", api.Nat{1, 1}, api.Nat{top, 0}, api.Nat{2, 0}, api.Nat{0, 0}},
		{"Sub", api.Nat{7}, api.Nat{5}, api.Nat{4}, api.Nat{1}},
		{"Sub", api.Nat{7}, api.Nat{4}, api.Nat{5}, api.Nat{6}},
		{"Sub", api.Nat{7}, api.Nat{0}, api.Nat{6}, api.Nat{1}},
		{"Sub", api.Nat{1, 1}, api.Nat{0, 0}, api.Nat{1, 0}, api.Nat{0, 1}},
		{"Neg", api.Nat{7}, api.Nat{0}, nil, api.Nat{0}},
		{"Neg", api.Nat{7}, api.Nat{6}, nil, api.Nat{1}},
		{"Neg", api.Nat{1, 1}, api.Nat{0, 0}, nil, api.Nat{0, 0}},
		{"Neg", api.Nat{1, 1}, api.Nat{1, 0}, nil, api.Nat{0, 1}},
		{"Half", api.Nat{7}, api.Nat{5}, nil, api.Nat{6}},
		{"Half", api.Nat{7}, api.Nat{4}, nil, api.Nat{2}},
		{"Half", api.Nat{7}, api.Nat{0}, nil, api.Nat{0}},
		{"Half", api.Nat{7}, api.Nat{1}, nil, api.Nat{4}},
		{"Half", api.Nat{top}, api.Nat{1}, nil, api.Nat{1 << 63}},
		{"Half", api.Nat{top}, api.Nat{top - 2}, nil, api.Nat{top - 1}},
		{"Half", api.Nat{1, 1}, api.Nat{0, 1}, nil, api.Nat{1 << 63, 0}},
		{"Mul", api.Nat{7}, api.Nat{3}, api.Nat{5}, api.Nat{1}},
		{"Mul", api.Nat{7}, api.Nat{6}, api.Nat{6}, api.Nat{1}},
		{"Mul", api.Nat{7}, api.Nat{0}, api.Nat{6}, api.Nat{0}},
		{"Mul", api.Nat{1, 1}, api.Nat{0, 1}, api.Nat{0, 1}, api.Nat{1, 0}},
		{"Reduce", api.Nat{7}, nil, nil, api.Nat{0}},
		{"Reduce", api.Nat{7}, api.Nat{}, nil, api.Nat{0}},
		{"Reduce", api.Nat{7}, api.Nat{6}, nil, api.Nat{6}},
		{"Reduce", api.Nat{7}, api.Nat{7}, nil, api.Nat{0}},
		{"Reduce", api.Nat{7}, api.Nat{8}, nil, api.Nat{1}},
		{"Reduce", api.Nat{7}, api.Nat{0, 1}, nil, api.Nat{2}},
		{"Reduce", api.Nat{1, 1}, api.Nat{5}, nil, api.Nat{5, 0}},
		{"Reduce", api.Nat{1, 1}, api.Nat{0, 0, 1}, nil, api.Nat{1, 0}},
	} {
		for _, f := range calls() {
			if f.name != c.name {
				continue
			}
			if got, e := f.do(nil, set(t, c.m), c.a, c.b); e != api.OK || !slices.Equal(got, c.want) {
				t.Errorf("%s(%d, %d, %d): %d, %d, not %d", c.name, c.m, c.a, c.b, got, e, c.want)
			}
		}
	}
}

// reducible are numbers of all kinds of lengths, of just MaxWords too.
func reducible(m api.Nat) []api.Nat {
	n := len(m)
	list := []api.Nat{nil, {}, {0}, {1}, {top}, make(api.Nat, n), slices.Clone(m), with(m, 0, m[0]-1), full(n), full(n - 1), full(n + 1), behindNoughts(m, 2), slowMul(m, full(2)), single(n+1, n, 1), mixture(2*n, 3)}
	if n > 1 {
		list = append(list, m[1:], m[:n-1])
	}
	return append(list, full(api.MaxWords), mixture(api.MaxWords, 4), make(api.Nat, api.MaxWords))
}

// P7.1
func TestReduce(t *testing.T) {
	reduce := calls()[0]
	moduli(t, func(m api.Modulus, _ []api.Nat) {
		for _, a := range reducible(m.M) {
			if got := must(t, reduce, m, a, nil); !slices.Equal(got, slowRest(a, m.M)) {
				t.Errorf("Reduce(%x, %x): %x", m.M, a, got)
			}
		}
	})
}

// P7.1: a member stays what it is.
func TestReduceOfMembers(t *testing.T) {
	reduce := calls()[0]
	moduli(t, func(m api.Modulus, members []api.Nat) {
		for _, a := range members {
			if got := must(t, reduce, m, a, nil); !slices.Equal(got, a) {
				t.Errorf("Reduce(%x, %x): %x", m.M, a, got)
			}
		}
	})
}

// P7.1, P4: a modulus that is none is named ahead of a number that is too long.
func TestReduceOfTooMany(t *testing.T) {
	reduce := calls()[0]
	for _, a := range []api.Nat{make(api.Nat, api.MaxWords+1), full(api.MaxWords + 1), single(5000, 0, 1)} {
		for _, x := range []api.Nat{{7}, full(3), full(api.MaxModulus)} {
			refused(t, reduce, set(t, x), a, nil, api.ErrLong)
		}
		for _, m := range slices.Concat(bogus(), wrong(set(t, api.Nat{7})), wrong(set(t, full(3)))) {
			refused(t, reduce, m, a, nil, api.ErrRange)
		}
	}
}

// P7.2 to P7.4, and that answers are members.
func TestAll(t *testing.T) {
	wants := map[string]func(a, b, m api.Nat) api.Nat{
		"Reduce": func(a, b, m api.Nat) api.Nat { return slowRest(a, m) },
		"Add":    func(a, b, m api.Nat) api.Nat { return slowRest(slowSum(a, b), m) },
		"Sub":    func(a, b, m api.Nat) api.Nat { return slowRest(slowSum(a, less(m, b)), m) },
		"Neg":    func(a, b, m api.Nat) api.Nat { return slowRest(less(m, a), m) },
		"Half": func(a, b, m api.Nat) api.Nat {
			// (m + 1) / 2 is the half of 1.
			return slowRest(slowMul(a, slowHalf(slowSum(m, single(len(m), 0, 1)))), m)
		},
		"Mul": func(a, b, m api.Nat) api.Nat { return slowRest(slowMul(a, b), m) },
	}
	moduli(t, func(m api.Modulus, members []api.Nat) {
		if len(m.M) == api.MaxModulus {
			members = members[:6]
		}
		for _, c := range calls() {
			for _, a := range members {
				seconds := members
				if !c.two {
					seconds = []api.Nat{nil}
				}
				for _, b := range seconds {
					if got := must(t, c, m, a, b); !slices.Equal(got, wants[c.name](a, b, m.M)) {
						t.Errorf("%s(%x, %x, %x): %x", c.name, m.M, a, b, got)
					}
				}
			}
		}
	})
}

// P7.1 to P7.4 modulo small numbers, with all of their members.
func TestSmallModuli(t *testing.T) {
	wants := map[string]func(a, b, m uint64) uint64{
		"Reduce": func(a, b, m uint64) uint64 { return a },
		"Add":    func(a, b, m uint64) uint64 { return (a + b) % m },
		"Sub":    func(a, b, m uint64) uint64 { return (a + m - b) % m },
		"Neg":    func(a, b, m uint64) uint64 { return (m - a) % m },
		"Half":   func(a, b, m uint64) uint64 { return a * ((m + 1) / 2) % m },
		"Mul":    func(a, b, m uint64) uint64 { return a * b % m },
	}
	for number := uint64(3); number < 30; number += 2 {
		m := set(t, api.Nat{number})
		for _, c := range calls() {
			for a := range number {
				for b := range number {
					if got := must(t, c, m, api.Nat{a}, api.Nat{b}); got[0] != wants[c.name](a, b, number) {
						t.Errorf("%s(%d, %d, %d): %d", c.name, number, a, b, got)
					}
				}
			}
		}
	}
}

// The chapter's first words: operands that are no members.
func TestStrangers(t *testing.T) {
	moduli(t, func(m api.Modulus, members []api.Nat) {
		for _, c := range calls() {
			if c.any {
				continue
			}
			for _, x := range strangersTo(m.M) {
				for _, a := range []api.Nat{members[0], members[2], x} {
					refused(t, c, m, x, a, api.ErrRange)
					if c.two {
						refused(t, c, m, a, x, api.ErrRange)
					}
				}
			}
		}
	})
}

// The chapter's first words: moduli that mont.Check says no to.
func TestWrongModuli(t *testing.T) {
	for _, x := range []api.Nat{{7}, {top}, full(2), mixture(3, 1), with(single(4, 3, 1), 0, 1), full(api.MaxModulus)} {
		for _, m := range wrong(set(t, x)) {
			for _, a := range []api.Nat{single(len(x), 0, 1), make(api.Nat, len(m.M)), nil} {
				for _, c := range calls() {
					refused(t, c, m, a, a, api.ErrRange)
				}
			}
		}
	}
	for _, m := range bogus() {
		for _, a := range []api.Nat{nil, {0}, {0, 0}, {1}, make(api.Nat, len(m.M)), full(301)} {
			for _, c := range calls() {
				refused(t, c, m, a, a, api.ErrRange)
			}
		}
	}
}

// P7.5
func TestLaws(t *testing.T) {
	list := calls()
	moduli(t, func(m api.Modulus, members []api.Nat) {
		do := func(place int, a, b api.Nat) api.Nat { return must(t, list[place], m, a, b) }
		add := func(a, b api.Nat) api.Nat { return do(1, a, b) }
		sub := func(a, b api.Nat) api.Nat { return do(2, a, b) }
		neg := func(a api.Nat) api.Nat { return do(3, a, nil) }
		half := func(a api.Nat) api.Nat { return do(4, a, nil) }
		mul := func(a, b api.Nat) api.Nat { return do(5, a, b) }
		nought, one := members[0], members[1]
		for i, a := range members {
			b, c := members[(i+3)%len(members)], members[(i+5)%len(members)]
			for law, sides := range map[string][2]api.Nat{
				"sums don't hang on the order":          {add(a, b), add(b, a)},
				"products don't hang on the order":      {mul(a, b), mul(b, a)},
				"sums of three hang on no order":        {add(add(a, b), c), add(a, add(b, c))},
				"products of three hang on no order":    {mul(mul(a, b), c), mul(a, mul(b, c))},
				"products part over sums":               {mul(a, add(b, c)), add(mul(a, b), mul(a, c))},
				"products part over differences":        {mul(a, sub(b, c)), sub(mul(a, b), mul(a, c))},
				"Sub undoes Add":                        {sub(add(a, b), b), a},
				"Add undoes Sub":                        {add(sub(a, b), b), a},
				"a and its Neg come to 0":               {add(a, neg(a)), nought},
				"the Neg of the Neg is a":               {neg(neg(a)), a},
				"a half's double is a":                  {add(half(a), half(a)), a},
				"a double's half is a":                  {half(add(a, a)), a},
				"0 changes no sum":                      {add(a, nought), a},
				"1 changes no product":                  {mul(a, one), a},
				"a product with 0 is 0":                 {mul(nought, a), nought},
				"a product with M - 1 is the Neg":       {mul(members[2], a), neg(a)},
				"a difference is a sum with the Neg":    {sub(a, b), add(a, neg(b))},
				"a number less itself is 0":             {sub(a, a), nought},
				"a sum with itself is a product with 2": {add(a, a), mul(a, add(one, one))},
			} {
				if !slices.Equal(sides[0], sides[1]) {
					t.Errorf("modulo %x, of %x, %x, %x: it isn't so that %s: %x, %x", m.M, a, b, c, law, sides[0], sides[1])
				}
			}
		}
	})
}

// P7.1, P7.4, P7.5: what is reduced behind a product or a sum is what comes of what is reduced ahead.
func TestReduceKeepsSumsAndProducts(t *testing.T) {
	list := calls()
	for _, x := range []api.Nat{{7}, {top}, mixture(3, 2), full(4), full(api.MaxModulus)} {
		m := set(t, x)
		reduce := func(a api.Nat) api.Nat { return must(t, list[0], m, a, nil) }
		a, b := mixture(150, 5), mixture(150, 6)
		if got, want := must(t, list[5], m, reduce(a), reduce(b)), reduce(slowMul(a, b)); !slices.Equal(got, want) {
			t.Errorf("a product modulo %x: %x, not %x", x, got, want)
		}
		if got, want := must(t, list[1], m, reduce(a), reduce(b)), reduce(slowSum(a, b)); !slices.Equal(got, want) {
			t.Errorf("a sum modulo %x: %x, not %x", x, got, want)
		}
	}
}

// seen is what a call writes down.
func seen(c call, m api.Modulus, a, b api.Nat) *trace.Trace {
	tr := trace.New()
	c.do(tr, m, a, b)
	return tr
}

func checkSeen(t *testing.T, c call, first *trace.Trace, m api.Modulus, a, b api.Nat) {
	t.Helper()
	if !trace.Same(first, seen(c, m, a, b)) {
		t.Errorf("%s(%x, %x, %x) writes down what others of those lengths don't", c.name, m, a, b)
	}
}

// likeLengths are those of some moduli whose numbers have just n words each.
func likeLengths(list []api.Modulus, n int) []api.Modulus {
	return slices.DeleteFunc(list, func(m api.Modulus) bool { return len(m.M) != n || len(m.RR) != n })
}

// The chapter's first words: what is written down hangs on lengths alone, whatever modulus and operands hold, and whether they are refused or not.
func TestSeen(t *testing.T) {
	for _, c := range calls() {
		var others []*trace.Trace
		for _, n := range []int{1, 2, 3, 5, api.MaxModulus} {
			first := seen(c, set(t, full(n)), make(api.Nat, n), make(api.Nat, n))
			if first.Many() == 0 {
				t.Errorf("%s writes nothing down of %d words", c.name, n)
			}
			for _, x := range odds(n)[:min(6, 130/n+1)] {
				m := set(t, x)
				for _, a := range slices.Concat(membersOf(m.M), reaching(m.M)) {
					checkSeen(t, c, first, m, a, single(n, 0, 1))
					checkSeen(t, c, first, m, single(n, 0, 1), a)
				}
				for _, other := range likeLengths(wrong(m), n) {
					checkSeen(t, c, first, other, make(api.Nat, n), full(n))
					checkSeen(t, c, first, other, full(n), single(n, 0, 1))
				}
			}
			for _, other := range others {
				if trace.Same(first, other) {
					t.Errorf("%s writes down the same of more words and of fewer", c.name)
				}
			}
			others = append(others, first)
		}
	}
}

// P7.1: what Reduce writes down hangs on both lengths alone, those of numbers that are too long or of no words too.
func TestReduceSeen(t *testing.T) {
	reduce := calls()[0]
	for _, n := range []int{1, 3} {
		for _, length := range []int{0, 1, 2, 3, 4, 9, api.MaxWords, api.MaxWords + 1} {
			first := seen(reduce, set(t, full(n)), make(api.Nat, length), nil)
			for _, x := range odds(n) {
				for _, m := range append(likeLengths(wrong(set(t, x)), n), set(t, x)) {
					for _, a := range []api.Nat{make(api.Nat, length), full(length), mixture(length, 8)} {
						checkSeen(t, reduce, first, m, a, nil)
					}
				}
			}
		}
	}
}

// The chapter's first words: of operands whose lengths may not be, lengths alone are seen.
func TestStrangersSeen(t *testing.T) {
	for _, c := range calls()[1:] {
		for _, lengths := range [][3]int{{0, 0, 0}, {0, 1, 1}, {1, 0, 1}, {2, 1, 2}, {2, 2, 3}, {3, 4, 4}, {3, 301, 0}, {131, 131, 131}, {300, 300, 300}, {301, 301, 1}} {
			n := lengths[0]
			first := seen(c, api.Modulus{M: full(n), K: 1, RR: full(n)}, make(api.Nat, lengths[1]), make(api.Nat, lengths[2]))
			for _, number := range []api.Nat{full(n), make(api.Nat, n), mixture(n, 1)} {
				for seed := range uint64(2) {
					m := api.Modulus{M: number, K: seed, RR: mixture(n, seed)}
					checkSeen(t, c, first, m, mixture(lengths[1], seed), full(lengths[2]))
					checkSeen(t, c, first, m, full(lengths[1]), mixture(lengths[2], seed))
				}
			}
		}
	}
}

// P3, P2.1: a trace that nobody made is let be, and the answers don't hang on it.
func TestTraceIsNothingToAnswers(t *testing.T) {
	var none *trace.Trace
	var zero trace.Trace
	spent := trace.New()
	for range 2 * api.MaxEvents {
		spent.Span(1)
	}
	for _, m := range []api.Modulus{set(t, api.Nat{7}), set(t, full(3)), {}, {M: api.Nat{8}, RR: api.Nat{0}}} {
		for _, c := range calls() {
			for _, a := range []api.Nat{nil, {5}, {7}, {1, 2, 3}, full(3), full(301)} {
				want, e := c.do(none, m, a, a)
				for _, tr := range []*trace.Trace{trace.New(), &zero, spent} {
					if got, f := c.do(tr, m, a, a); f != e || !slices.Equal(got, want) {
						t.Errorf("%s hangs on its trace: %x, %d, not %x, %d", c.name, got, f, want, e)
					}
				}
			}
		}
	}
	if none.Many() != 0 || len(none.Events()) != 0 {
		t.Error("something is written down in no trace")
	}
}

// P3: a nil list and an empty one are the same.
func TestNilAndEmpty(t *testing.T) {
	m := set(t, api.Nat{7})
	for _, c := range calls() {
		if !c.any {
			refused(t, c, m, nil, nil, api.ErrRange)
			refused(t, c, m, api.Nat{}, api.Nat{}, api.ErrRange)
		}
		for _, other := range []api.Modulus{{M: m.M, K: m.K, RR: api.Nat{}}, {M: m.M, K: m.K}, {M: api.Nat{}, K: m.K, RR: m.RR}, {K: m.K, RR: m.RR}} {
			refused(t, c, other, api.Nat{1}, api.Nat{1}, api.ErrRange)
		}
	}
}

// behind is x in a list with more behind it, and that list.
func behind(x api.Nat) (api.Nat, api.Nat) {
	list := append(slices.Clone(x), 99, 98, 97, 96)
	return list[:len(x)], list
}

// spoil overwrites all of a number, what lies behind its length too.
func spoil(x api.Nat) {
	x = x[:cap(x)]
	for i := range x {
		x[i] = 77
	}
}

// P2: each number stands in a list with more behind it, of which nothing may be read, written or handed out.
func TestNothingChanged(t *testing.T) {
	good := set(t, with(full(3), 0, 5))
	for _, of := range []api.Modulus{good, {M: good.M, K: 4, RR: good.RR}, {M: api.Nat{2, 3, 4}, K: 4, RR: good.RR}} {
		for _, c := range calls() {
			for _, p := range [][2]api.Nat{{{1, 2, 3}, {top, 0, 5}}, {{0, 0, 0}, {0, 0, 0}}, {{2, 2, 0}, {0, 0, 0}}, {{4, top, top}, {4, top, top}}, {full(3), {1, 2, 3}}, {{1, 2}, {0, 0, 0, 0}}, {nil, {1}}} {
				checkUnchanged(t, c, of, p[0], p[1])
			}
		}
	}
}

func checkUnchanged(t *testing.T, c call, of api.Modulus, x, y api.Nat) {
	t.Helper()
	a, wholeA := behind(x)
	b, wholeB := behind(y)
	m, wholeM := behind(of.M)
	square, wholeRR := behind(of.RR)
	lists := []api.Nat{wholeA, wholeB, wholeM, wholeRR}
	var kept []api.Nat
	for _, list := range lists {
		kept = append(kept, slices.Clone(list))
	}
	want, e := c.do(nil, of, slices.Clone(x), slices.Clone(y))
	got, f := c.do(nil, api.Modulus{M: m, K: of.K, RR: square}, a, b)
	if f != e || !slices.Equal(got, want) {
		t.Errorf("%s reads what lies behind: %x, %d, not %x, %d", c.name, got, f, want, e)
	}
	spoil(got)
	for i, list := range lists {
		if !slices.Equal(list, kept[i]) {
			t.Errorf("%s changed %x to %x", c.name, kept[i], list)
		}
	}
}

// P2: a number given twice, or one of the modulus's own, is an operand like others.
func TestOneNumberTwice(t *testing.T) {
	m := set(t, with(mixture(4, 3), 0, 11))
	for _, x := range []api.Nat{slices.Clone(m.RR), m.RR, with(m.M, 0, 10)} {
		for _, c := range calls() {
			want := must(t, c, m, slices.Clone(x), slices.Clone(x))
			if got := must(t, c, m, x, x); !slices.Equal(got, want) {
				t.Errorf("%s of a number and itself: %x, not %x", c.name, got, want)
			}
		}
	}
	for _, c := range calls()[1:] {
		refused(t, c, m, m.M, m.M, api.ErrRange)
	}
	if got := must(t, calls()[0], m, m.M, nil); !slices.Equal(got, make(api.Nat, 4)) {
		t.Errorf("Reduce of M: %x", got)
	}
}
