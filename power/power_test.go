package power_test

import (
	"slices"
	"testing"

	"sconce/api"
	"sconce/limbs"
	"sconce/mont"
	"sconce/power"
	"sconce/trace"
)

// raised is the power that Exp answers, which has to be a member.
func raised(t *testing.T, m api.Modulus, a, e api.Nat) api.Nat {
	t.Helper()
	got, err := power.Exp(nil, m, a, e)
	if err != api.OK || len(got) != len(m.M) || !below(got, m.M) {
		t.Fatalf("Exp(%x, %x, %x): %x, %d", m.M, a, e, got, err)
	}
	return got
}

// tableOf is the table that Table answers, which has to be of sixteen members.
func tableOf(t *testing.T, m api.Modulus, a api.Nat) []api.Nat {
	t.Helper()
	list, err := power.Table(nil, m, a)
	if err != api.OK || len(list) != 16 {
		t.Fatalf("Table(%x, %x): %x, %d", m.M, a, list, err)
	}
	for _, x := range list {
		if len(x) != len(m.M) || !below(x, m.M) {
			t.Fatalf("Table(%x, %x): %x is no member", m.M, a, x)
		}
	}
	return list
}

// refused asks that Exp answers an error, and no number.
func refused(t *testing.T, m api.Modulus, a, e api.Nat, want api.Errno) {
	t.Helper()
	if got, err := power.Exp(nil, m, a, e); err != want || len(got) != 0 {
		t.Fatalf("Exp(%x, %x, %x): %x, %d, not %d", m, a, e, got, err, want)
	}
}

// noTable asks that Table answers ErrRange, and no numbers.
func noTable(t *testing.T, m api.Modulus, a api.Nat) {
	t.Helper()
	if list, err := power.Table(nil, m, a); err != api.ErrRange || len(list) != 0 {
		t.Errorf("Table(%x, %x): %x, %d", m, a, list, err)
	}
}

// P8.1 in numbers written out, the chapter's example among them.
func TestExamples(t *testing.T) {
	for _, c := range []struct{ m, a, e, want api.Nat }{
		{api.Nat{7}, api.Nat{3}, api.Nat{5}, api.Nat{5}},
		{api.Nat{7}, api.Nat{3}, nil, api.Nat{1}},
		{api.Nat{7}, api.Nat{3}, api.Nat{0}, api.Nat{1}},
		{api.Nat{7}, api.Nat{3}, api.Nat{0, 0, 0}, api.Nat{1}},
		{api.Nat{7}, api.Nat{0}, nil, api.Nat{1}},
		{api.Nat{7}, api.Nat{0}, api.Nat{0}, api.Nat{1}},
		{api.Nat{7}, api.Nat{0}, api.Nat{1}, api.Nat{0}},
		{api.Nat{7}, api.Nat{0}, api.Nat{0, 1}, api.Nat{0}},
		{api.Nat{7}, api.Nat{3}, api.Nat{1}, api.Nat{3}},
		{api.Nat{7}, api.Nat{3}, api.Nat{2}, api.Nat{2}},
		{api.Nat{7}, api.Nat{3}, api.Nat{5, 0, 0}, api.Nat{5}},
		{api.Nat{7}, api.Nat{6}, api.Nat{top}, api.Nat{6}},
		{api.Nat{7}, api.Nat{6}, api.Nat{0, 1}, api.Nat{1}},
		// 2^64 is 4 modulo 6, the order of 3 modulo 7.
		{api.Nat{7}, api.Nat{3}, api.Nat{0, 1}, api.Nat{4}},
		{api.Nat{3}, api.Nat{2}, api.Nat{top}, api.Nat{2}},
		{api.Nat{9}, api.Nat{3}, api.Nat{2}, api.Nat{0}},
		{api.Nat{1000003}, api.Nat{2}, api.Nat{100}, api.Nat{253109}},
		{api.Nat{1000003}, api.Nat{2}, api.Nat{1000002}, api.Nat{1}},
		{api.Nat{top}, api.Nat{2}, api.Nat{63}, api.Nat{1 << 63}},
		{api.Nat{top}, api.Nat{2}, api.Nat{64}, api.Nat{1}},
		{api.Nat{1, 1}, api.Nat{2, 0}, api.Nat{64}, api.Nat{0, 1}},
		{api.Nat{1, 1}, api.Nat{2, 0}, api.Nat{65}, api.Nat{top, 0}},
		{api.Nat{1, 1}, api.Nat{5, 0}, nil, api.Nat{1, 0}},
		{api.Nat{1, 1}, api.Nat{5, 0}, api.Nat{3}, api.Nat{125, 0}},
	} {
		if got, err := power.Exp(nil, set(t, c.m), c.a, c.e); err != api.OK || !slices.Equal(got, c.want) {
			t.Errorf("Exp(%d, %d, %d): %d, %d, not %d", c.m, c.a, c.e, got, err, c.want)
		}
	}
}

// P8.1
func TestExpAll(t *testing.T) {
	moduli(t, func(m api.Modulus, members []api.Nat) {
		for _, a := range members {
			for _, e := range exponents() {
				if got, want := raised(t, m, a, e), slowPower(a, e, m.M); !slices.Equal(got, want) {
					t.Errorf("Exp(%x, %x, %x): %x, not %x", m.M, a, e, got, want)
				}
			}
		}
	})
}

// P8.1 modulo small numbers, with all of their members.
func TestExpSmall(t *testing.T) {
	for number := uint64(3); number < 24; number += 2 {
		m := set(t, api.Nat{number})
		for a := range number {
			want := uint64(1)
			for e := range uint64(40) {
				if got := raised(t, m, api.Nat{a}, api.Nat{e}); got[0] != want {
					t.Errorf("Exp(%d, %d, %d): %d, not %d", number, a, e, got, want)
				}
				want = want * a % number
			}
		}
	}
}

// P8.1: a bit of the exponent counts wherever it stands.
func TestExpSingleBits(t *testing.T) {
	m := set(t, api.Nat{1<<61 - 1})
	want := api.Nat{3}
	for i := range 3 * 64 {
		if got := raised(t, m, api.Nat{3}, single(3, i/64, 1<<(i%64))); !slices.Equal(got, want) {
			t.Errorf("3 to the power of 2 to the power of %d: %d, not %d", i, got, want)
		}
		want = slowRest(slowMul(want, want), m.M)
	}
}

// P8.1: exponents of just MaxWords words and nearly so many.
func TestExpLong(t *testing.T) {
	const n = api.MaxWords
	for _, x := range []api.Nat{{7}, {1000003}, mixture(1, 6), mixture(2, 6)} {
		m := set(t, x)
		a := slowRest(mixture(len(x), 8), m.M)
		for _, e := range []api.Nat{full(n), mixture(n, 1), single(n, n-1, 15<<60), single(n, n-1, 1), make(api.Nat, n), single(n, 0, 5), mixture(n-1, 2)} {
			if got, want := raised(t, m, a, e), slowPower(a, e, m.M); !slices.Equal(got, want) {
				t.Errorf("Exp(%x, %x) of %d words: %x, not %x", m.M, a, len(e), got, want)
			}
		}
	}
}

// P8.1, P8.2: moduli of just MaxModulus words.
func TestLongModuli(t *testing.T) {
	const n = api.MaxModulus
	for _, x := range odds(n) {
		m := set(t, x)
		a := slowRest(mixture(n, 9), m.M)
		table := tableOf(t, m, a)
		want := single(n, 0, 1)
		for e := range uint64(6) {
			if got := raised(t, m, a, api.Nat{e}); !slices.Equal(got, want) {
				t.Errorf("Exp(%x, %x, %d): %x, not %x", m.M, a, e, got, want)
			}
			if !slices.Equal(table[e], timesR(want, m.M)) {
				t.Errorf("Table(%x, %x) at %d: %x", m.M, a, e, table[e])
			}
			want = slowRest(slowMul(want, a), m.M)
		}
	}
	// 2^(64 n) is 1 modulo M, so the exponent counts modulo 64 n.
	m := set(t, full(n))
	if got := raised(t, m, single(n, 0, 2), api.Nat{64*n + 70, 0}); !slices.Equal(got, single(n, 1, 64)) {
		t.Errorf("a power of 2 modulo 2^(64 n) - 1: %x", got)
	}
}

// P8.1, P4: a modulus that is none and what is no member are named ahead of an exponent that is too long.
func TestExpTooLong(t *testing.T) {
	for _, e := range []api.Nat{make(api.Nat, api.MaxWords+1), single(api.MaxWords+1, 0, 1), full(api.MaxWords + 1), full(50000)} {
		for _, x := range []api.Nat{{7}, full(3), full(api.MaxModulus)} {
			m := set(t, x)
			for _, a := range membersOf(m.M) {
				refused(t, m, a, e, api.ErrLong)
			}
			for _, a := range strangersTo(m.M) {
				refused(t, m, a, e, api.ErrRange)
			}
		}
		for _, m := range slices.Concat(bogus(), wrong(set(t, api.Nat{7})), wrong(set(t, full(3)))) {
			refused(t, m, make(api.Nat, len(m.M)), e, api.ErrRange)
		}
	}
}

// P8.1, P8.2: what is no member.
func TestStrangers(t *testing.T) {
	moduli(t, func(m api.Modulus, _ []api.Nat) {
		for _, a := range strangersTo(m.M) {
			noTable(t, m, a)
			for _, e := range []api.Nat{nil, {0}, {1}, {5, 6}} {
				refused(t, m, a, e, api.ErrRange)
			}
		}
	})
	m := set(t, full(api.MaxModulus))
	for _, a := range strangersTo(m.M) {
		noTable(t, m, a)
		refused(t, m, a, nil, api.ErrRange)
	}
}

// P8.1, P8.2: moduli that mont.Check says no to.
func TestWrongModuli(t *testing.T) {
	list := bogus()
	for _, x := range []api.Nat{{7}, {top}, full(2), mixture(3, 1), with(single(4, 3, 1), 0, 1)} {
		list = append(list, wrong(set(t, x))...)
	}
	for _, m := range list {
		for _, a := range []api.Nat{nil, {0}, {1}, {0, 0}, make(api.Nat, len(m.M)), full(len(m.M))} {
			noTable(t, m, a)
			for _, e := range []api.Nat{nil, {0}, {5}, {0, 1}} {
				refused(t, m, a, e, api.ErrRange)
			}
		}
	}
}

// P8.2
func TestTableAll(t *testing.T) {
	moduli(t, func(m api.Modulus, members []api.Nat) {
		for _, a := range members {
			want := single(len(m.M), 0, 1)
			for i, x := range tableOf(t, m, a) {
				if !slices.Equal(x, timesR(want, m.M)) {
					t.Errorf("Table(%x, %x) at %d: %x", m.M, a, i, x)
				}
				if entered, _ := mont.Enter(nil, m, want); !slices.Equal(x, entered) {
					t.Errorf("Table(%x, %x) at %d: %x, but Enter has %x", m.M, a, i, x, entered)
				}
				want = slowRest(slowMul(want, a), m.M)
			}
		}
	})
}

// P8.2 in numbers written out: modulo 7, R is 2.
func TestTableExample(t *testing.T) {
	want := []uint64{2, 6, 4, 5, 1, 3, 2, 6, 4, 5, 1, 3, 2, 6, 4, 5}
	for i, x := range tableOf(t, set(t, api.Nat{7}), api.Nat{3}) {
		if !slices.Equal(x, api.Nat{want[i]}) {
			t.Errorf("3 to the power of %d, times 2, modulo 7: %d, not %d", i, x, want[i])
		}
	}
}

// P8.1, P8.2: the table is of the powers that Exp answers.
func TestTableIsOfPowers(t *testing.T) {
	moduli(t, func(m api.Modulus, members []api.Nat) {
		for _, a := range members {
			for i, x := range tableOf(t, m, a) {
				back, err := mont.Leave(nil, m, x)
				if want := raised(t, m, a, api.Nat{uint64(i)}); err != api.OK || !slices.Equal(back, want) {
					t.Errorf("Table(%x, %x) at %d is %x, %d, but Exp has %x", m.M, a, i, back, err, want)
				}
			}
		}
	})
}

// P8.3
func TestSumsOfExponents(t *testing.T) {
	pairs := [][2]api.Nat{{nil, nil}, {nil, {9}}, {{0}, {top}}, {{1}, {1}}, {{1}, {top}}, {{top}, {top}}, {{15}, {1}}, {{0x8888888888888888}, {0x8888888888888888}}, {{top, top}, {1}}, {mixture(3, 1), mixture(2, 2)}, {mixture(2, 3), mixture(2, 4)}}
	moduli(t, func(m api.Modulus, members []api.Nat) {
		for _, a := range members {
			for _, p := range pairs {
				got := raised(t, m, a, slowSum(p[0], p[1]))
				want := slowRest(slowMul(raised(t, m, a, p[0]), raised(t, m, a, p[1])), m.M)
				if !slices.Equal(got, want) {
					t.Errorf("Exp(%x, %x) of the sum of %x and %x: %x, not %x", m.M, a, p[0], p[1], got, want)
				}
			}
		}
	})
	m := set(t, api.Nat{1<<61 - 1})
	one, other := mixture(api.MaxWords-1, 1), mixture(api.MaxWords-1, 2)
	a := api.Nat{3}
	got := raised(t, m, a, slowSum(one, other))
	if want := slowRest(slowMul(raised(t, m, a, one), raised(t, m, a, other)), m.M); !slices.Equal(got, want) {
		t.Errorf("a sum of long exponents: %x, not %x", got, want)
	}
}

// seen is what Exp writes down.
func seen(m api.Modulus, a, e api.Nat) *trace.Trace {
	tr := trace.New()
	power.Exp(tr, m, a, e)
	return tr
}

// seenTable is what Table writes down.
func seenTable(m api.Modulus, a api.Nat) *trace.Trace {
	tr := trace.New()
	power.Table(tr, m, a)
	return tr
}

// alikeExponents are exponents of so many words.
func alikeExponents(words int) []api.Nat {
	return []api.Nat{make(api.Nat, words), full(words), mixture(words, 1), slices.Repeat(api.Nat{0x1111111111111111}, words), slices.Repeat(api.Nat{0xf0f0f0f00f0f0f0f}, words)}
}

// likeLength are those of some moduli whose M has just n words.
func likeLength(list []api.Modulus, n int) []api.Modulus {
	return slices.DeleteFunc(list, func(m api.Modulus) bool { return len(m.M) != n })
}

func checkSeen(t *testing.T, first *trace.Trace, m api.Modulus, a, e api.Nat) {
	t.Helper()
	if !trace.Same(first, seen(m, a, e)) {
		t.Errorf("Exp(%x, %x, %x) writes down what others of those lengths don't", m, a, e)
	}
}

// P8.1: what is written down hangs on n and on how many words e has, whatever the words hold, and whether they are refused or not.
func TestSeen(t *testing.T) {
	for _, n := range []int{1, 2, 3, 5} {
		for _, words := range []int{0, 1, 2, 3} {
			first := seen(set(t, full(n)), make(api.Nat, n), make(api.Nat, words))
			if first.Many() == 0 {
				t.Errorf("nothing is written down of %d and %d words", n, words)
			}
			for _, x := range odds(n) {
				m := set(t, x)
				for _, e := range alikeExponents(words) {
					for _, a := range slices.Concat(membersOf(m.M), strangersTo(m.M)) {
						checkSeen(t, first, m, a, e)
					}
					for _, other := range likeLength(wrong(m), n) {
						checkSeen(t, first, other, single(n, 0, 1), e)
						checkSeen(t, first, other, full(n+1), e)
					}
				}
			}
		}
	}
}

// P8.1: lengths at which there is nothing to reckon, or much of it.
func TestSeenAtTheLimits(t *testing.T) {
	for _, lengths := range [][2]int{{0, 0}, {0, 2}, {1, 300}, {1, 301}, {2, 301}, {130, 1}, {130, 301}, {131, 0}, {131, 5}, {300, 301}, {301, 1}} {
		n, words := lengths[0], lengths[1]
		list := []api.Modulus{{M: full(n), K: 1, RR: full(n)}, {M: make(api.Nat, n)}, {M: mixture(n, 1), K: 3, RR: mixture(n, 2)}}
		if n > 0 && n <= api.MaxModulus {
			list = append(list, set(t, full(n)), set(t, mixture(n, 4)))
		}
		first := seen(list[0], make(api.Nat, n), make(api.Nat, words))
		for _, m := range list {
			for _, a := range []api.Nat{nil, make(api.Nat, n), full(n), mixture(n, 3), full(n + 1)} {
				checkSeen(t, first, m, a, mixture(words, 5))
			}
		}
	}
}

// P8.1: other lengths write other things down.
func TestSeenTellsLengths(t *testing.T) {
	var others []*trace.Trace
	for n := 1; n < 5; n++ {
		for words := range 5 {
			tr := seen(set(t, full(n)), single(n, 0, 3), full(words))
			for _, other := range others {
				if trace.Same(tr, other) {
					t.Errorf("the same is written down of %d and %d words as of others", n, words)
				}
			}
			others = append(others, tr)
		}
	}
}

// P8.2, P7: what Table writes down hangs on n alone.
func TestTableSeen(t *testing.T) {
	for _, n := range []int{1, 2, 3, 5, api.MaxModulus} {
		first := seenTable(set(t, full(n)), make(api.Nat, n))
		if first.Many() == 0 {
			t.Errorf("Table writes nothing down of %d words", n)
		}
		for _, x := range odds(n)[:min(4, 130/n+1)] {
			m := set(t, x)
			for _, other := range likeLength(append(wrong(m), m), n) {
				for _, a := range slices.Concat(membersOf(m.M)[:4], strangersTo(m.M)[:6]) {
					if !trace.Same(first, seenTable(other, a)) {
						t.Errorf("Table(%x, %x) writes down what others of that length don't", other, a)
					}
				}
			}
		}
	}
}

// P8.1: each window takes its four squares, all sixteen powers gone over, and its product; there are sixteen in every word, whatever it holds.
func TestWindowsSeen(t *testing.T) {
	for _, n := range []int{1, 3} {
		m := set(t, full(n))
		a := single(n, 0, 3)
		window := trace.New()
		for range 4 {
			mont.Mul(window, m, a, a)
		}
		before := window.Many()
		limbs.Pick(window, tableOf(t, m, a), 0)
		if window.Many() != before+16 {
			t.Errorf("sixteen powers are %d events", window.Many()-before)
		}
		mont.Mul(window, m, a, a)
		for words := range 5 {
			for _, e := range alikeExponents(words) {
				want := seen(m, a, nil).Many() + 16*words*window.Many()
				if got := seen(m, a, e).Many(); got != want {
					t.Errorf("Exp(%x, %x, %x): %d events, not %d", m.M, a, e, got, want)
				}
			}
		}
	}
}

// P3, P2.1: a trace that nobody made is let be, and the answers don't hang on it.
func TestTraceIsNothingToAnswers(t *testing.T) {
	var none *trace.Trace
	var zero trace.Trace
	spent := trace.New()
	for range 2 * api.MaxEvents {
		spent.Span(1)
	}
	for _, m := range []api.Modulus{set(t, api.Nat{7}), set(t, full(3)), {}, {M: api.Nat{8}, RR: api.Nat{0}}} {
		for _, a := range []api.Nat{nil, {5}, {7}, {1, 2, 3}, full(3)} {
			for _, e := range []api.Nat{nil, {6}, {1, 2}, full(301)} {
				want, wantErr := power.Exp(none, m, a, e)
				table, tableErr := power.Table(none, m, a)
				for _, tr := range []*trace.Trace{trace.New(), &zero, spent} {
					if got, err := power.Exp(tr, m, a, e); err != wantErr || !slices.Equal(got, want) {
						t.Errorf("Exp hangs on its trace: %x, %d, not %x, %d", got, err, want, wantErr)
					}
					if got, err := power.Table(tr, m, a); err != tableErr || !slices.EqualFunc(got, table, slices.Equal) {
						t.Errorf("Table hangs on its trace: %x, %d, not %x, %d", got, err, table, tableErr)
					}
				}
			}
		}
	}
	if none.Many() != 0 || len(none.Events()) != 0 {
		t.Error("something is written down in no trace")
	}
}

// P3: a nil list and an empty one are the same.
func TestNilAndEmpty(t *testing.T) {
	m := set(t, api.Nat{7})
	if got := raised(t, m, api.Nat{5}, api.Nat{}); !slices.Equal(got, raised(t, m, api.Nat{5}, nil)) {
		t.Errorf("Exp of an empty exponent: %d", got)
	}
	for _, a := range []api.Nat{nil, {}} {
		refused(t, m, a, nil, api.ErrRange)
		noTable(t, m, a)
	}
	for _, other := range []api.Modulus{{M: m.M, K: m.K, RR: api.Nat{}}, {M: m.M, K: m.K}, {M: api.Nat{}, K: m.K, RR: m.RR}, {K: m.K, RR: m.RR}} {
		refused(t, other, api.Nat{1}, api.Nat{1}, api.ErrRange)
		noTable(t, other, api.Nat{1})
	}
}

// behind is x in a list with more behind it, and that list.
func behind(x api.Nat) (api.Nat, api.Nat) {
	list := append(slices.Clone(x), 99, 98, 97, 96)
	return list[:len(x)], list
}

// spoil overwrites all of a number, what lies behind its length too.
func spoil(x api.Nat) {
	x = x[:cap(x)]
	for i := range x {
		x[i] = 77
	}
}

// P2: each number stands in a list with more behind it, of which nothing may be read, written or handed out.
func TestNothingChanged(t *testing.T) {
	good := set(t, with(full(3), 0, 5))
	for _, of := range []api.Modulus{good, {M: good.M, K: 4, RR: good.RR}, {M: api.Nat{2, 3, 4}, K: 4, RR: good.RR}, {M: full(131), K: 1, RR: full(131)}} {
		for _, a := range []api.Nat{{1, 2, 3}, {0, 0, 0}, {1, 0, 0}, {4, top, top}, full(3), {1, 2}, {1, 2, 3, 4}, nil} {
			for _, e := range []api.Nat{nil, {0}, {1}, {top, 3}, make(api.Nat, 301)} {
				checkUnchanged(t, of, a, e)
			}
		}
	}
}

func checkUnchanged(t *testing.T, of api.Modulus, x, y api.Nat) {
	t.Helper()
	a, wholeA := behind(x)
	e, wholeE := behind(y)
	number, wholeM := behind(of.M)
	square, wholeRR := behind(of.RR)
	m := api.Modulus{M: number, K: of.K, RR: square}
	lists := []api.Nat{wholeA, wholeE, wholeM, wholeRR}
	var kept []api.Nat
	for _, list := range lists {
		kept = append(kept, slices.Clone(list))
	}
	want, wantErr := power.Exp(nil, of, slices.Clone(x), slices.Clone(y))
	got, err := power.Exp(nil, m, a, e)
	if err != wantErr || !slices.Equal(got, want) {
		t.Errorf("Exp reads what lies behind: %x, %d, not %x, %d", got, err, want, wantErr)
	}
	table, _ := power.Table(nil, m, a)
	spoil(got)
	for _, x := range table[:cap(table)] {
		spoil(x)
	}
	for i, list := range lists {
		if !slices.Equal(list, kept[i]) {
			t.Errorf("%x was changed to %x", kept[i], list)
		}
	}
}

// P2: no two numbers of a table share memory, and no two answers.
func TestTableSharesNothing(t *testing.T) {
	m := set(t, mixture(3, 1))
	for _, a := range membersOf(m.M) {
		want, list := tableOf(t, m, a), tableOf(t, m, a)
		for i := range list {
			spoil(list[i])
			for j := i + 1; j < len(list); j++ {
				if !slices.Equal(list[j], want[j]) {
					t.Fatalf("Table(%x, %x): %d and %d share memory", m.M, a, i, j)
				}
			}
		}
		if !slices.EqualFunc(tableOf(t, m, a), want, slices.Equal) {
			t.Errorf("Table(%x, %x) keeps what it answers", m.M, a)
		}
	}
}

// P2: a number given twice, or one of the modulus's own, is an argument like others.
func TestOneNumberTwice(t *testing.T) {
	m := set(t, with(mixture(4, 3), 0, 11))
	for _, x := range []api.Nat{m.RR, with(m.M, 0, 10)} {
		want := raised(t, m, slices.Clone(x), slices.Clone(x))
		if got := raised(t, m, x, x); !slices.Equal(got, want) || !mont.Check(m) {
			t.Errorf("Exp of a number and itself: %x, not %x", got, want)
		}
	}
	if got, want := raised(t, m, m.RR, m.M), slowPower(m.RR, m.M, m.M); !slices.Equal(got, want) {
		t.Errorf("Exp of M as exponent: %x, not %x", got, want)
	}
	refused(t, m, m.M, m.M, api.ErrRange)
	noTable(t, m, m.M)
}
