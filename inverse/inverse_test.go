package inverse_test

import (
	"math"
	"slices"
	"testing"

	"sconce/api"
	"sconce/inverse"
	"sconce/mont"
	"sconce/ring"
	"sconce/trace"
)

// asked is what Of answers, which has to be a member, and 1 or 0.
func asked(t *testing.T, m api.Modulus, a api.Nat) (api.Nat, uint64) {
	t.Helper()
	got, is, e := inverse.Of(nil, m, a)
	if e != api.OK || is > 1 || len(got) != len(m.M) || !below(got, m.M) {
		t.Fatalf("Of(%x, %x): %x, %d, %d", m.M, a, got, is, e)
	}
	return got, is
}

// checkHas asks that Of answers a's inverse, of which there is one alone.
func checkHas(t *testing.T, m api.Modulus, a api.Nat) {
	t.Helper()
	got, is := asked(t, m, a)
	if is != 1 || !isNumber(slowRest(slowMul(a, got), m.M), 1) {
		t.Errorf("Of(%x, %x): %x, %d", m.M, a, got, is)
	}
}

// checkHasNone asks that Of answers noughts, and 0.
func checkHasNone(t *testing.T, m api.Modulus, a api.Nat) {
	t.Helper()
	if got, is := asked(t, m, a); is != 0 || !isNumber(got, 0) {
		t.Errorf("Of(%x, %x): %x, %d, but there is none", m.M, a, got, is)
	}
}

// checkOf asks what Of answers, where the divisor is told slowly.
func checkOf(t *testing.T, m api.Modulus, a api.Nat) {
	t.Helper()
	if isNumber(slowDivisor(a, m.M), 1) {
		checkHas(t, m, a)
	} else {
		checkHasNone(t, m, a)
	}
}

// refused asks that Of answers ErrRange, no number, and 0.
func refused(t *testing.T, m api.Modulus, a api.Nat) {
	t.Helper()
	if got, is, e := inverse.Of(nil, m, a); e != api.ErrRange || is != 0 || len(got) != 0 {
		t.Errorf("Of(%x, %x): %x, %d, %d", m, a, got, is, e)
	}
}

// divisor is what Divisor answers, which has to have the longer one's length.
func divisor(t *testing.T, a, b api.Nat) api.Nat {
	t.Helper()
	got, e := inverse.Divisor(a, b)
	if e != api.OK || len(got) != max(len(a), len(b)) {
		t.Fatalf("Divisor(%x, %x): %x, %d", a, b, got, e)
	}
	return got
}

// P10.1 in numbers written out.
func TestSteps(t *testing.T) {
	for _, c := range []struct{ bits, want int }{
		{math.MinInt, 7}, {-46, 7}, {-1, 7}, {0, 7}, {1, 7}, {2, 10}, {3, 13},
		{44, 131}, {45, 134}, {46, 135}, {47, 138}, {64, 187}, {128, 372}, {2048, 5906},
		{64*api.MaxModulus - 1, 23981}, {64 * api.MaxModulus, 23984}, {64*api.MaxModulus + 1, 23984}, {64 * api.MaxWords, 23984}, {math.MaxInt, 23984},
	} {
		if got := inverse.Steps(c.bits); got != c.want {
			t.Errorf("Steps(%d): %d, not %d", c.bits, got, c.want)
		}
	}
}

// P10.1 of all bits that there are: 17 times the steps are as near below as they can be.
func TestStepsAreRoundedDown(t *testing.T) {
	for bits := 1; bits <= 64*api.MaxModulus; bits++ {
		whole := 49*bits + 57
		if bits < 46 {
			whole = 49*bits + 80
		}
		if rest := whole - 17*inverse.Steps(bits); rest < 0 || rest > 16 {
			t.Fatalf("Steps(%d): %d", bits, inverse.Steps(bits))
		}
	}
}

// P10.2 in numbers written out, the chapter's example among them.
func TestOfExamples(t *testing.T) {
	for _, c := range []struct {
		m, a, want api.Nat
		is         uint64
	}{
		{api.Nat{15}, api.Nat{2}, api.Nat{8}, 1},
		{api.Nat{15}, api.Nat{5}, api.Nat{0}, 0},
		{api.Nat{15}, api.Nat{0}, api.Nat{0}, 0},
		{api.Nat{15}, api.Nat{1}, api.Nat{1}, 1},
		{api.Nat{15}, api.Nat{14}, api.Nat{14}, 1},
		{api.Nat{3}, api.Nat{0}, api.Nat{0}, 0},
		{api.Nat{3}, api.Nat{2}, api.Nat{2}, 1},
		{api.Nat{7}, api.Nat{3}, api.Nat{5}, 1},
		{api.Nat{9}, api.Nat{6}, api.Nat{0}, 0},
		{api.Nat{top}, api.Nat{2}, api.Nat{1 << 63}, 1},
		{api.Nat{top}, api.Nat{top - 1}, api.Nat{top - 1}, 1},
		{api.Nat{top}, api.Nat{3}, api.Nat{0}, 0},
		{api.Nat{top, top}, api.Nat{0, 1}, api.Nat{0, 1}, 1},
		{api.Nat{top, top}, api.Nat{1, 1}, api.Nat{0, 0}, 0},
		{api.Nat{top, top}, api.Nat{0, 0}, api.Nat{0, 0}, 0},
		{api.Nat{top, top}, api.Nat{1 << 63, 0}, api.Nat{0, 2}, 1},
		// 2^64 is M - 1 here, which is its own inverse.
		{api.Nat{1, 1}, api.Nat{0, 1}, api.Nat{0, 1}, 1},
		{api.Nat{1, 1}, api.Nat{2, 0}, api.Nat{1<<63 + 1, 0}, 1},
		{api.Nat{1, 1}, api.Nat{1 << 63, 0}, api.Nat{top, 0}, 1},
		{api.Nat{1, 1}, api.Nat{274177, 0}, api.Nat{0, 0}, 0},
	} {
		got, is, e := inverse.Of(nil, set(t, c.m), c.a)
		if e != api.OK || is != c.is || !slices.Equal(got, c.want) {
			t.Errorf("Of(%d, %d): %d, %d, %d, not %d, %d", c.m, c.a, got, is, e, c.want, c.is)
		}
	}
}

// P10.2 modulo small numbers, with all of their members.
func TestOfSmall(t *testing.T) {
	for number := uint64(3); number < 80; number += 2 {
		m := set(t, api.Nat{number})
		for a := range number {
			var want, wantIs uint64
			for x := range number {
				if a*x%number == 1 {
					want, wantIs = x, 1
				}
			}
			if got, is := asked(t, m, api.Nat{a}); got[0] != want || is != wantIs {
				t.Errorf("Of(%d, %d): %d, %d, not %d, %d", number, a, got, is, want, wantIs)
			}
		}
	}
}

// P10.2
func TestOfAll(t *testing.T) {
	moduli(t, func(m api.Modulus, members []api.Nat) {
		for _, a := range members {
			checkOf(t, m, a)
		}
	})
}

// P10.2: many members of moduli that are spread over all of their words, whose sums go beyond these.
func TestOfMixtures(t *testing.T) {
	for n := 1; n < 5; n++ {
		for seed := range uint64(12) {
			m := set(t, with(mixture(n, seed), n-1, mixture(n, seed)[n-1]|1<<63))
			for other := range uint64(6) {
				checkOf(t, m, slowRest(mixture(n, seed+20*other+1), m.M))
			}
		}
	}
}

// P10.2: modulo a prime all but 0 have an inverse.
func TestOfPrimes(t *testing.T) {
	for _, p := range primes() {
		m := set(t, p)
		for _, a := range membersOf(m.M) {
			if isNumber(a, 0) {
				checkHasNone(t, m, a)
			} else {
				checkHas(t, m, a)
			}
		}
	}
}

// P10.2: what has a divisor in common with M has no inverse, whatever else it is.
func TestOfMultiples(t *testing.T) {
	for _, c := range composites() {
		m := set(t, c[0])
		n := len(m.M)
		checkHasNone(t, m, c[1])
		checkHasNone(t, m, less(m.M, c[1]))
		for seed := range uint64(5) {
			checkHasNone(t, m, slowRest(slowMul(c[1], mixture(n, seed)), m.M))
		}
	}
}

// P10.2: moduli of just MaxModulus words, the greatest and the least among them.
func TestOfLong(t *testing.T) {
	const n = api.MaxModulus
	for i, x := range odds(n) {
		m := set(t, x)
		checkHas(t, m, single(n, 0, 2))
		if i > 1 {
			continue
		}
		checkHasNone(t, m, make(api.Nat, n))
		checkHas(t, m, with(m.M, 0, m.M[0]-1))
		// A power of 2 has an inverse modulo every odd number.
		checkHas(t, m, single(n, n-1, 1))
	}
	// 2^(64 n) - 1 is a multiple of 2^64 - 1, and so of 3.
	m := set(t, full(n))
	checkHasNone(t, m, single(n, 0, top))
	checkHasNone(t, m, less(m.M, single(n, 0, 3)))
	m = set(t, mixture(n, 4))
	a := slowRest(mixture(n, 5), m.M)
	if inverse.Coprime(a, m.M) {
		checkHas(t, m, a)
	} else {
		checkHasNone(t, m, a)
	}
}

// P10.2: what is no member.
func TestOfStrangers(t *testing.T) {
	moduli(t, func(m api.Modulus, _ []api.Nat) {
		for _, a := range append(strangersTo(m.M), full(50000)) {
			refused(t, m, a)
		}
	})
	m := set(t, full(api.MaxModulus))
	for _, a := range []api.Nat{nil, m.M, full(api.MaxModulus - 1), single(api.MaxModulus+1, 0, 1)} {
		refused(t, m, a)
	}
}

// P10.2: moduli that mont.Check says no to.
func TestOfWrongModuli(t *testing.T) {
	list := bogus()
	for _, x := range []api.Nat{{7}, {top}, full(2), mixture(3, 1), with(single(4, 3, 1), 0, 1)} {
		list = append(list, wrong(set(t, x))...)
	}
	for _, m := range list {
		for _, a := range []api.Nat{nil, {0}, {1}, {0, 0}, make(api.Nat, len(m.M)), full(len(m.M))} {
			refused(t, m, a)
		}
		if len(m.M) > 0 {
			refused(t, m, single(len(m.M), 0, 1))
		}
	}
	good := set(t, full(api.MaxModulus))
	for _, m := range []api.Modulus{{M: good.M, K: good.K ^ 1, RR: good.RR}, {M: good.M, K: good.K, RR: good.M}} {
		refused(t, m, single(api.MaxModulus, 0, 1))
	}
}

// P10.4, and that the inverse of an inverse is the number.
func TestBack(t *testing.T) {
	list := []api.Modulus{set(t, mixture(20, 1))}
	moduli(t, func(m api.Modulus, _ []api.Nat) { list = append(list, m) })
	for _, m := range list {
		for _, a := range membersOf(m.M) {
			got, is := asked(t, m, a)
			if (is == 1) != inverse.Coprime(a, m.M) || (is == 1) != inverse.Coprime(m.M, a) {
				t.Errorf("Of(%x, %x): %d, but Coprime has %v", m.M, a, is, inverse.Coprime(a, m.M))
			}
			if is == 0 {
				continue
			}
			if one, e := ring.Mul(nil, m, a, got); e != api.OK || !isNumber(one, 1) {
				t.Errorf("%x times %x modulo %x: %x, %d", a, got, m.M, one, e)
			}
			if again, is := asked(t, m, got); is != 1 || !slices.Equal(again, a) {
				t.Errorf("Of of Of(%x, %x): %x, %d", m.M, a, again, is)
			}
		}
	}
}

// P10.3 in numbers written out.
func TestDivisorExamples(t *testing.T) {
	for _, c := range []struct{ a, b, want api.Nat }{
		{nil, nil, nil},
		{nil, api.Nat{}, nil},
		{nil, api.Nat{0}, api.Nat{0}},
		{api.Nat{0}, api.Nat{0}, api.Nat{0}},
		{api.Nat{0}, api.Nat{0, 0, 0}, api.Nat{0, 0, 0}},
		{nil, api.Nat{1}, api.Nat{1}},
		{api.Nat{0}, api.Nat{1}, api.Nat{1}},
		{api.Nat{0, 0}, api.Nat{1}, api.Nat{1, 0}},
		{nil, api.Nat{5, 0}, api.Nat{5, 0}},
		{api.Nat{0}, api.Nat{5}, api.Nat{5}},
		{api.Nat{0, 0, 0}, api.Nat{5}, api.Nat{5, 0, 0}},
		{nil, api.Nat{5, 7}, api.Nat{5, 7}},
		{api.Nat{1}, api.Nat{1}, api.Nat{1}},
		{api.Nat{1}, api.Nat{5, 7}, api.Nat{1, 0}},
		{api.Nat{84, 0}, api.Nat{36}, api.Nat{12, 0}},
		{api.Nat{84}, api.Nat{36, 0, 0}, api.Nat{12, 0, 0}},
		{api.Nat{36}, api.Nat{36}, api.Nat{36}},
		{api.Nat{8}, api.Nat{15}, api.Nat{1}},
		{api.Nat{0, 1}, api.Nat{6}, api.Nat{2, 0}},
		{api.Nat{0, 1}, api.Nat{0, 0, 1}, api.Nat{0, 1, 0}},
		{api.Nat{0, 12}, api.Nat{0, 18}, api.Nat{0, 6}},
		{api.Nat{0, 1}, api.Nat{top}, api.Nat{1, 0}},
		{api.Nat{top, top}, api.Nat{top}, api.Nat{top, 0}},
		{api.Nat{top, top}, api.Nat{top, top}, api.Nat{top, top}},
		{api.Nat{top, top}, api.Nat{1, 1, 0}, api.Nat{1, 1, 0}},
	} {
		for _, p := range [][2]api.Nat{{c.a, c.b}, {c.b, c.a}} {
			if got := divisor(t, p[0], p[1]); !slices.Equal(got, c.want) {
				t.Errorf("Divisor(%d, %d): %d, not %d", p[0], p[1], got, c.want)
			}
			if got := inverse.Coprime(p[0], p[1]); got != isNumber(c.want, 1) {
				t.Errorf("Coprime(%d, %d): %v", p[0], p[1], got)
			}
		}
	}
}

// P10.3 of all small numbers.
func TestDivisorSmall(t *testing.T) {
	for a := range uint64(40) {
		for b := range uint64(40) {
			var want uint64
			for d := uint64(1); d <= max(a, b); d++ {
				if a%d == 0 && b%d == 0 {
					want = d
				}
			}
			if got := divisor(t, api.Nat{a}, api.Nat{b}); got[0] != want {
				t.Errorf("Divisor(%d, %d): %d, not %d", a, b, got, want)
			}
			if got := inverse.Coprime(api.Nat{a}, api.Nat{b}); got != (want == 1) {
				t.Errorf("Coprime(%d, %d): %v", a, b, got)
			}
		}
	}
}

// divides says whether d, which isn't 0, divides x.
func divides(d, x api.Nat) bool {
	return isNumber(slowRest(x, d), 0)
}

// P10.3
func TestDivisorAll(t *testing.T) {
	for _, a := range operands() {
		for _, b := range operands() {
			got := divisor(t, a, b)
			if !slices.Equal(got, slowDivisor(a, b)) {
				t.Errorf("Divisor(%x, %x): %x", a, b, got)
			}
			if !isNumber(got, 0) && !(divides(got, a) && divides(got, b)) {
				t.Errorf("Divisor(%x, %x): %x, which doesn't divide both", a, b, got)
			}
			if inverse.Coprime(a, b) != isNumber(got, 1) {
				t.Errorf("Coprime(%x, %x): %v", a, b, inverse.Coprime(a, b))
			}
		}
	}
}

// P10.3: numbers of just MaxWords words and nearly so many, made so that their divisor is known.
func TestDivisorLong(t *testing.T) {
	const n = api.MaxWords
	shared, other := mixture(100, 1), mixture(200, 2)
	shared[0] |= 1
	other[0] &^= 1
	for _, c := range []struct{ a, b, want api.Nat }{
		// Two numbers of which one is the next have no divisor in common.
		{slowMul(shared, other), slowMul(shared, with(other, 0, other[0]|1)), shared},
		{full(n), full(200), full(100)},
		{full(n), full(n), full(n)},
		{full(n), make(api.Nat, n), full(n)},
		{nil, full(n), full(n)},
		{mixture(n, 3), api.Nat{1}, api.Nat{1}},
		{make(api.Nat, n), api.Nat{1}, api.Nat{1}},
		{make(api.Nat, n), api.Nat{6}, api.Nat{6}},
		{make(api.Nat, n), make(api.Nat, n), nil},
		{single(n, 0, 84), single(n, 0, 36), api.Nat{12}},
		{single(n, n-1, 1), full(n), api.Nat{1}},
		{single(n, n-1, 1<<63), single(n-1, 5, 6), single(6, 5, 2)},
	} {
		want := behindNoughts(c.want, n-len(c.want))
		for _, p := range [][2]api.Nat{{c.a, c.b}, {c.b, c.a}} {
			if got := divisor(t, p[0], p[1]); !slices.Equal(got, want) {
				t.Errorf("Divisor(%x, %x): %x, not %x", p[0], p[1], got, want)
			}
			if got := inverse.Coprime(p[0], p[1]); got != isNumber(want, 1) {
				t.Errorf("Coprime(%x, %x): %v", p[0], p[1], got)
			}
		}
	}
}

// fibonacci is the number of Fibonacci at a place, in just n words.
func fibonacci(place, n int) api.Nat {
	a, b := make(api.Nat, n), single(n, 0, 1)
	for range place {
		a, b = b, slowSum(a, b)[:n]
	}
	return a
}

// P10.3: of neighbours in Fibonacci's row a division takes as little away as it can; the divisor of two is the one at their places' divisor.
func TestDivisorOfFibonacci(t *testing.T) {
	const n = 150
	for _, c := range []struct{ a, b, want int }{{13800, 13799, 1}, {13800, 9200, 4600}, {6, 4, 2}, {12, 8, 4}, {200, 150, 50}} {
		a, b, want := fibonacci(c.a, n), fibonacci(c.b, n), fibonacci(c.want, n)
		if got := divisor(t, a, b); !slices.Equal(got, want) {
			t.Errorf("Divisor of Fibonacci's numbers at %d and %d: %x", c.a, c.b, got)
		}
		if got := inverse.Coprime(a, b); got != isNumber(want, 1) {
			t.Errorf("Coprime of Fibonacci's numbers at %d and %d: %v", c.a, c.b, got)
		}
	}
}

// P10.3: of more words than MaxWords, whatever they hold.
func TestDivisorTooLong(t *testing.T) {
	for _, n := range []int{api.MaxWords + 1, 2 * api.MaxWords, 50000} {
		for _, long := range []api.Nat{make(api.Nat, n), single(n, 0, 1), full(n)} {
			for _, other := range []api.Nat{nil, {0}, {1}, {7}, full(api.MaxWords), long} {
				for _, p := range [][2]api.Nat{{long, other}, {other, long}} {
					if got, e := inverse.Divisor(p[0], p[1]); e != api.ErrLong || len(got) != 0 {
						t.Errorf("Divisor of %d and %d words: %x, %d", len(p[0]), len(p[1]), got, e)
					}
					if inverse.Coprime(p[0], p[1]) {
						t.Errorf("Coprime of %d and %d words", len(p[0]), len(p[1]))
					}
				}
			}
		}
	}
}

// seen is what Of writes down.
func seen(m api.Modulus, a api.Nat) *trace.Trace {
	tr := trace.New()
	inverse.Of(tr, m, a)
	return tr
}

func checkSeen(t *testing.T, first *trace.Trace, m api.Modulus, a api.Nat) {
	t.Helper()
	if !trace.Same(first, seen(m, a)) {
		t.Errorf("Of(%x, %x) writes down what others of that length don't", m, a)
	}
}

// P10.2: what is written down hangs on n alone, whether there is an inverse or none, and whether Of refuses or not.
func TestSeen(t *testing.T) {
	for _, n := range []int{1, 2, 3, 5} {
		first := seen(set(t, full(n)), make(api.Nat, n))
		if first.Many() == 0 {
			t.Errorf("nothing is written down of %d words", n)
		}
		for _, x := range odds(n) {
			m := set(t, x)
			for _, a := range slices.Concat(membersOf(m.M), strangersTo(m.M)) {
				checkSeen(t, first, m, a)
			}
			for _, other := range wrong(m) {
				if len(other.M) != n {
					continue
				}
				checkSeen(t, first, other, single(n, 0, 1))
				checkSeen(t, first, other, full(n+1))
			}
		}
	}
	for _, list := range [][]api.Nat{{{3}, {15}, {top - 58}}, {mersenne(127), {1, 1}, slowMul(mersenne(61), api.Nat{top - 58})}} {
		first := seen(set(t, list[0]), single(len(list[0]), 0, 1))
		for _, x := range list {
			m := set(t, x)
			for _, a := range membersOf(m.M) {
				checkSeen(t, first, m, a)
			}
		}
	}
}

// P10.2: lengths at which there is nothing to reckon, or much of it.
func TestSeenAtTheLimits(t *testing.T) {
	for _, n := range []int{0, api.MaxModulus, api.MaxModulus + 1, api.MaxWords, api.MaxWords + 1} {
		list := []api.Modulus{{M: full(n), K: 1, RR: full(n)}, {M: make(api.Nat, n)}}
		if n == api.MaxModulus {
			list = []api.Modulus{set(t, full(n)), set(t, mixture(n, 4)), {M: make(api.Nat, n)}}
		}
		first := seen(list[0], make(api.Nat, n))
		for _, m := range list {
			for _, a := range []api.Nat{nil, mixture(n, 3)} {
				checkSeen(t, first, m, a)
			}
		}
	}
}

// P10.2: there are Steps of 64 n of them, each of which writes as many events down.
func TestStepsSeen(t *testing.T) {
	many := func(n int) int { return seen(set(t, full(n)), single(n, 0, 3)).Many() }
	first, second := inverse.Steps(64), inverse.Steps(2*64)
	each := (many(2) - many(1)) / (second - first)
	rest := many(1) - each*first
	if each < 1 || rest < 0 {
		t.Fatalf("a step writes %d events down, all else %d", each, rest)
	}
	for _, n := range []int{1, 2, 3, 4, 9, 40} {
		if got, want := many(n), each*inverse.Steps(64*n)+rest; got != want {
			t.Errorf("%d words: %d events, not %d", n, got, want)
		}
	}
}

// P3, P2.1: a trace that nobody made is let be, and the answers don't hang on it.
func TestTraceIsNothingToAnswers(t *testing.T) {
	var none *trace.Trace
	var zero trace.Trace
	spent := trace.New()
	for range 2 * api.MaxEvents {
		spent.Span(1)
	}
	for _, m := range []api.Modulus{set(t, api.Nat{15}), set(t, full(3)), {}, {M: api.Nat{8}, RR: api.Nat{0}}} {
		for _, a := range []api.Nat{nil, {2}, {5}, {15}, {1, 2, 3}, {3, 0, 0}, full(3)} {
			want, wantIs, wantErr := inverse.Of(none, m, a)
			for _, tr := range []*trace.Trace{trace.New(), &zero, spent} {
				if got, is, e := inverse.Of(tr, m, a); e != wantErr || is != wantIs || !slices.Equal(got, want) {
					t.Errorf("Of hangs on its trace: %x, %d, %d, not %x, %d, %d", got, is, e, want, wantIs, wantErr)
				}
			}
		}
	}
	if none.Many() != 0 || len(none.Events()) != 0 {
		t.Error("something is written down in no trace")
	}
}

// P3: a nil list and an empty one are the same.
func TestNilAndEmpty(t *testing.T) {
	m := set(t, api.Nat{7})
	for _, none := range []api.Nat{nil, {}} {
		refused(t, m, none)
		refused(t, api.Modulus{M: none, K: m.K, RR: m.RR}, none)
		refused(t, api.Modulus{M: m.M, K: m.K, RR: none}, api.Nat{1})
		if got := divisor(t, none, api.Nat{4, 0}); !slices.Equal(got, api.Nat{4, 0}) {
			t.Errorf("Divisor of none and 4: %d", got)
		}
		if !inverse.Coprime(none, api.Nat{1}) || inverse.Coprime(none, api.Nat{2}) || inverse.Coprime(none, none) {
			t.Error("Coprime of none")
		}
	}
}

// behind is x in a list with more behind it, and that list.
func behind(x api.Nat) (api.Nat, api.Nat) {
	list := append(slices.Clone(x), 99, 98, 97, 96)
	return list[:len(x)], list
}

// spoil overwrites all of a number, what lies behind its length too.
func spoil(x api.Nat) {
	x = x[:cap(x)]
	for i := range x {
		x[i] = 77
	}
}

// unchanged answers numbers that stand in lists with more behind them, and what asks that nothing in these was changed.
func unchanged(t *testing.T, numbers ...api.Nat) ([]api.Nat, func()) {
	var given, lists, kept []api.Nat
	for _, x := range numbers {
		number, whole := behind(x)
		given, lists, kept = append(given, number), append(lists, whole), append(kept, slices.Clone(whole))
	}
	return given, func() {
		t.Helper()
		for i, list := range lists {
			if !slices.Equal(list, kept[i]) {
				t.Errorf("%x was changed to %x", kept[i], list)
			}
		}
	}
}

// P2: what is given to Of isn't changed, nor handed out, nor what lies behind it read.
func TestOfChangesNothing(t *testing.T) {
	good := set(t, with(full(3), 0, 5))
	for _, of := range []api.Modulus{good, set(t, full(3)), {M: good.M, K: 4, RR: good.RR}, {M: api.Nat{2, 3, 4}, K: 4, RR: good.RR}, {M: full(131), K: 1, RR: full(131)}} {
		for _, a := range []api.Nat{{1, 2, 3}, {0, 0, 0}, {1, 0, 0}, {3, 0, 0}, {4, top, top}, full(3), {1, 2}, {1, 2, 3, 4}, nil} {
			want, wantIs, wantErr := inverse.Of(nil, of, slices.Clone(a))
			given, check := unchanged(t, of.M, of.RR, a)
			got, is, e := inverse.Of(nil, api.Modulus{M: given[0], K: of.K, RR: given[1]}, given[2])
			if e != wantErr || is != wantIs || !slices.Equal(got, want) {
				t.Errorf("Of reads what lies behind: %x, %d, %d, not %x, %d, %d", got, is, e, want, wantIs, wantErr)
			}
			spoil(got)
			check()
		}
	}
}

// P2: what is given to Divisor and Coprime isn't changed, nor handed out, nor what lies behind it read.
func TestDivisorChangesNothing(t *testing.T) {
	for _, a := range append(operands(), make(api.Nat, api.MaxWords+1)) {
		for _, b := range operands() {
			want, wantErr := inverse.Divisor(slices.Clone(a), slices.Clone(b))
			given, check := unchanged(t, a, b)
			inverse.Coprime(given[0], given[1])
			got, e := inverse.Divisor(given[0], given[1])
			if e != wantErr || !slices.Equal(got, want) {
				t.Errorf("Divisor reads what lies behind: %x, %d, not %x, %d", got, e, want, wantErr)
			}
			spoil(got)
			check()
		}
	}
}

// P2, P3: what is answered is kept nowhere.
func TestAnswersAreNew(t *testing.T) {
	m := set(t, full(3))
	for _, a := range membersOf(m.M) {
		got, _ := asked(t, m, a)
		want := slices.Clone(got)
		spoil(got)
		if again, _ := asked(t, m, a); !slices.Equal(again, want) {
			t.Errorf("Of(%x, %x) keeps what it answers", m.M, a)
		}
		got = divisor(t, a, m.M)
		want = slices.Clone(got)
		spoil(got)
		if again := divisor(t, a, m.M); !slices.Equal(again, want) {
			t.Errorf("Divisor(%x, %x) keeps what it answers", a, m.M)
		}
	}
}

// P2: a number given twice, or one of the modulus's own, is an argument like others.
func TestOneNumberTwice(t *testing.T) {
	m := set(t, with(mixture(4, 3), 0, 11))
	checkOf(t, m, m.RR)
	refused(t, m, m.M)
	if !mont.Check(m) {
		t.Error("the modulus was changed")
	}
	for _, x := range []api.Nat{nil, {0}, {1}, {12, 0}, mixture(3, 1)} {
		got := divisor(t, x, x)
		if !slices.Equal(got, x) {
			t.Errorf("Divisor(%x, %x): %x", x, x, got)
		}
		kept := slices.Clone(x)
		spoil(got)
		if !slices.Equal(x, kept) {
			t.Errorf("Divisor hands %x itself out", kept)
		}
	}
}
