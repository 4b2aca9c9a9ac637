package mont_test

import (
	"slices"
	"testing"

	"sconce/api"
	"sconce/mont"
	"sconce/trace"
)

const top = uint64(1<<64 - 1)

// full has n words, all of them ones.
func full(n int) api.Nat {
	return slices.Repeat(api.Nat{top}, n)
}

// single has n words, of which all but the one at a place are 0.
func single(n, place int, w uint64) api.Nat {
	x := make(api.Nat, n)
	x[place] = w
	return x
}

// mixture has n words that are spread, others for each seed.
func mixture(n int, seed uint64) api.Nat {
	x := make(api.Nat, n)
	w := 0x9e3779b97f4a7c15 * (2*seed + 1)
	for i := range x {
		w ^= w << 13
		w ^= w >> 7
		w ^= w << 17
		x[i] = w
	}
	return x
}

// with is x with another word at a place.
func with(x api.Nat, place int, w uint64) api.Nat {
	x = slices.Clone(x)
	x[place] = w
	return x
}

// behindNoughts is x with so many noughts at its top.
func behindNoughts(x api.Nat, many int) api.Nat {
	return append(slices.Clone(x), make(api.Nat, many)...)
}

// ofLength are odd numbers that need just n words.
func ofLength(n int) []api.Nat {
	list := []api.Nat{full(n), with(full(n), 0, 0xfffffffffffffff1), with(mixture(n, 1), 0, 5), with(mixture(n, 2), 0, top)}
	for _, w := range []uint64{3, 1 << 63, top} {
		list = append(list, with(single(n, n-1, w), 0, w|1), with(full(n), n-1, w|1))
	}
	if n > 1 {
		// The least of n words and others near the bounds of their top word: of these R R is the most times.
		list = append(list, with(single(n, n-1, 1), 0, 1), with(single(n, n-1, 1), 0, top), with(full(n), n-1, 1), with(single(n, n-1, 1<<63), 0, 1))
	}
	return list
}

// odds are odd numbers above 1 of some words.
func odds() []api.Nat {
	list := []api.Nat{{5}, {7}, {9}, {997}, {1<<32 - 1}, {1<<32 + 1}, {top - 2}}
	for n := 1; n < 6; n++ {
		list = append(list, ofLength(n)...)
	}
	return list
}

// longOdds have just MaxModulus words, or nearly as many.
func longOdds() []api.Nat {
	const n = api.MaxModulus
	return []api.Nat{full(n), with(single(n, n-1, 1), 0, 1), with(mixture(n, 1), 0, 7), with(mixture(n-1, 2), 0, 9), full(64)}
}

// set sets m up, which has to be let.
func set(t *testing.T, m api.Nat) api.Modulus {
	t.Helper()
	out, e := mont.Setup(m)
	if e != api.OK {
		t.Fatalf("Setup(%x): %d", m, e)
	}
	return out
}

// moduli goes through all odd numbers, set up, with some members of each.
func moduli(t *testing.T, each func(m api.Modulus, members []api.Nat)) {
	t.Helper()
	for _, x := range slices.Concat(odds(), longOdds()) {
		each(set(t, x), membersOf(x))
	}
}

// membersOf are 0, 1, m - 1, and some in between.
func membersOf(m api.Nat) []api.Nat {
	n := len(m)
	list := []api.Nat{make(api.Nat, n), single(n, 0, 1), with(m, 0, m[0]-1)}
	for seed := range uint64(2) {
		list = append(list, slowRest(mixture(n, 7+seed), m))
	}
	if n > 1 {
		list = append(list, with(make(api.Nat, n), 0, top), with(m, n-1, 0))
	}
	return list
}

// strangersTo are no members of m: too short, too long, not below it.
func strangersTo(m api.Nat) []api.Nat {
	n := len(m)
	list := []api.Nat{nil, {}, make(api.Nat, n-1), full(n - 1), make(api.Nat, n+1), single(n+1, 0, 1), behindNoughts(m, 1), full(n + 1), make(api.Nat, 301), slices.Clone(m)}
	if !slices.Equal(m, full(n)) {
		list = append(list, full(n))
	}
	if m[0] != top {
		list = append(list, with(m, 0, m[0]+1))
	}
	return list
}

// digitsOf are the digits of x at base 2^16, the lowest ahead.
func digitsOf(x api.Nat) []uint64 {
	var list []uint64
	for _, w := range x {
		list = append(list, w&0xffff, w>>16&0xffff, w>>32&0xffff, w>>48)
	}
	return list
}

// slowMul is a b in as many words as both together, reckoned digit by digit.
func slowMul(a, b api.Nat) api.Nat {
	sums := make([]uint64, 4*(len(a)+len(b)))
	for i, d := range digitsOf(a) {
		for j, e := range digitsOf(b) {
			sums[i+j] += d * e
		}
	}
	x := make(api.Nat, len(a)+len(b))
	var carry uint64
	for i, s := range sums {
		carry += s
		x[i/4] |= carry & 0xffff << (16 * (i % 4))
		carry >>= 16
	}
	return x
}

// slowRest is x modulo m in m's length: it doubles and takes away.
func slowRest(x, m api.Nat) api.Nat {
	rest := make(api.Nat, len(m))
	for i := 64*len(x) - 1; i >= 0; i-- {
		over := x[i/64] >> (i % 64) & 1
		for j, w := range rest {
			rest[j], over = w<<1|over, w>>63
		}
		if over == 1 || !below(rest, m) {
			takeAway(rest, m)
		}
	}
	return rest
}

func takeAway(x, m api.Nat) {
	var borrow uint64
	for i, w := range m {
		less := x[i] - w - borrow
		if x[i] < w || x[i] == w && borrow == 1 {
			borrow = 1
		} else {
			borrow = 0
		}
		x[i] = less
	}
}

// below says whether a is below b, which is as long.
func below(a, b api.Nat) bool {
	for i := len(a) - 1; i >= 0; i-- {
		if a[i] != b[i] {
			return a[i] < b[i]
		}
	}
	return false
}

// timesR is x R modulo m.
func timesR(x, m api.Nat) api.Nat {
	return slowRest(append(make(api.Nat, len(m)), x...), m)
}

func isOf(m, want api.Modulus) bool {
	return slices.Equal(m.M, want.M) && m.K == want.K && slices.Equal(m.RR, want.RR)
}

// P6.1 and the chapter's example.
func TestSetupExamples(t *testing.T) {
	for _, c := range []struct {
		m    api.Nat
		want api.Modulus
	}{
		{api.Nat{7}, api.Modulus{M: api.Nat{7}, K: 0x9249249249249249, RR: api.Nat{4}}},
		{api.Nat{7, 0}, api.Modulus{M: api.Nat{7}, K: 0x9249249249249249, RR: api.Nat{4}}},
		{api.Nat{3}, api.Modulus{M: api.Nat{3}, K: 0x5555555555555555, RR: api.Nat{1}}},
		{api.Nat{9}, api.Modulus{M: api.Nat{9}, K: 0x71c71c71c71c71c7, RR: api.Nat{4}}},
		{api.Nat{top}, api.Modulus{M: api.Nat{top}, K: 1, RR: api.Nat{1}}},
		{api.Nat{1, 1}, api.Modulus{M: api.Nat{1, 1}, K: top, RR: api.Nat{1, 0}}},
		{api.Nat{1, 1, 0, 0}, api.Modulus{M: api.Nat{1, 1}, K: top, RR: api.Nat{1, 0}}},
		{api.Nat{top, top, top}, api.Modulus{M: api.Nat{top, top, top}, K: 1, RR: api.Nat{1, 0, 0}}},
		// 2^128 is 15 modulo 2^128 - 15.
		{api.Nat{0xfffffffffffffff1, top}, api.Modulus{M: api.Nat{0xfffffffffffffff1, top}, K: 0xeeeeeeeeeeeeeeef, RR: api.Nat{225, 0}}},
	} {
		if got, e := mont.Setup(c.m); e != api.OK || !isOf(got, c.want) {
			t.Errorf("Setup(%x): %x, %d, not %x", c.m, got, e, c.want)
		}
	}
}

// P6.1: K and RR are what the chapter says, whatever stands at the number's top.
func TestSetupAll(t *testing.T) {
	for _, m := range slices.Concat(odds(), longOdds()) {
		n := len(m)
		want := slowRest(single(2*n+1, 2*n, 1), m)
		for _, noughts := range []int{0, 1, 2, 200, 1000} {
			got, e := mont.Setup(behindNoughts(m, noughts))
			if e != api.OK || !slices.Equal(got.M, m) || got.K*m[0] != top || !slices.Equal(got.RR, want) {
				t.Fatalf("Setup(%x) behind %d noughts: %x, %d, not %x", m, noughts, got, e, want)
			}
		}
	}
}

// P6.1: of several errors the first that is named.
func TestSetupErrors(t *testing.T) {
	const n = api.MaxModulus
	for _, c := range []struct {
		m    api.Nat
		want api.Errno
	}{
		{nil, api.ErrRange},
		{api.Nat{}, api.ErrRange},
		{api.Nat{0}, api.ErrRange},
		{api.Nat{1}, api.ErrRange},
		{api.Nat{0, 0, 0}, api.ErrRange},
		{api.Nat{1, 0, 0}, api.ErrRange},
		{make(api.Nat, n), api.ErrRange},
		{make(api.Nat, n+1), api.ErrRange},
		{single(n+1, 0, 1), api.ErrRange},
		{make(api.Nat, 5000), api.ErrRange},
		{api.Nat{2}, api.ErrEven},
		{api.Nat{8}, api.ErrEven},
		{api.Nat{2, 0}, api.ErrEven},
		{api.Nat{top - 1}, api.ErrEven},
		{api.Nat{0, 1}, api.ErrEven},
		{api.Nat{0, 1, 0}, api.ErrEven},
		{api.Nat{6, 1}, api.ErrEven},
		{with(full(n), 0, top-1), api.ErrEven},
		{single(n, n-1, 1), api.ErrEven},
		{behindNoughts(single(n, n-1, 1), 3), api.ErrEven},
		{single(n+1, n, 1), api.ErrLong},
		{with(single(n+1, n, 1), 0, 1), api.ErrLong},
		{full(n + 1), api.ErrLong},
		{behindNoughts(single(n+1, n, 1), 5), api.ErrLong},
		{full(300), api.ErrLong},
		{full(301), api.ErrLong},
		{with(full(5000), 0, 2), api.ErrLong},
	} {
		got, e := mont.Setup(c.m)
		if e != c.want || !isOf(got, api.Modulus{}) {
			t.Errorf("Setup of %d words: %x, %d, not %d", len(c.m), got, e, c.want)
		}
	}
}

// P6.2
func TestCheckOfSetup(t *testing.T) {
	moduli(t, func(m api.Modulus, _ []api.Nat) {
		if !mont.Check(m) {
			t.Errorf("Check says no to %x", m)
		}
	})
}

// wrong are moduli that differ from m, Setup's answer, in a word or in a length.
func wrong(m api.Modulus) []api.Modulus {
	n := len(m.M)
	var list []api.Modulus
	add := func(number api.Nat, k uint64, square api.Nat) {
		list = append(list, api.Modulus{M: number, K: k, RR: square})
	}
	for _, i := range []int{0, n / 2, n - 1} {
		for _, change := range []uint64{1, 2, 1 << 63, top} {
			add(with(m.M, i, m.M[i]^change), m.K, m.RR)
			add(m.M, m.K, with(m.RR, i, m.RR[i]^change))
		}
	}
	for i := range 64 {
		add(m.M, m.K^1<<i, m.RR)
	}
	add(m.M, -m.K, m.RR)
	add(m.M, 0, m.RR)
	for _, noughts := range []int{1, 2} {
		add(behindNoughts(m.M, noughts), m.K, m.RR)
		add(m.M, m.K, behindNoughts(m.RR, noughts))
		add(behindNoughts(m.M, noughts), m.K, behindNoughts(m.RR, noughts))
	}
	add(m.M[:n-1], m.K, m.RR)
	add(m.M, m.K, m.RR[:n-1])
	add(nil, m.K, m.RR)
	add(m.M, m.K, nil)
	add(m.M, m.K, make(api.Nat, n))
	add(m.M, m.K, m.M)
	if raised, fits := plus(m.RR, m.M); fits {
		// The same modulo M, but not below it.
		add(m.M, m.K, raised)
	}
	return list
}

// plus is a + b in their length, if it fits.
func plus(a, b api.Nat) (api.Nat, bool) {
	out := make(api.Nat, len(a))
	var carry uint64
	for i := range a {
		out[i] = a[i] + b[i] + carry
		if out[i] < a[i] || out[i] == a[i] && carry == 1 {
			carry = 1
		} else {
			carry = 0
		}
	}
	return out, carry == 0
}

// P6.2: nothing but Setup's answer of its M is taken.
func TestCheckOfOthers(t *testing.T) {
	moduli(t, func(m api.Modulus, _ []api.Nat) {
		for i, other := range wrong(m) {
			if mont.Check(other) {
				t.Errorf("Check says yes to change %d of %x: %x", i, m, other)
			}
		}
	})
}

// P6.2: what is Setup's answer of its M is taken, whoever made it.
func TestCheckOfMade(t *testing.T) {
	m := set(t, full(3))
	for _, made := range []api.Modulus{
		{M: api.Nat{7}, K: 0x9249249249249249, RR: api.Nat{4}},
		{M: m.M[:2], K: m.K, RR: m.RR[:2]},
		{M: api.Nat{1, 1}, K: top, RR: api.Nat{1, 0}},
	} {
		if !mont.Check(made) {
			t.Errorf("Check says no to %x", made)
		}
	}
}

// bogus are moduli that nobody set up, some as Setup would answer if it took their M.
func bogus() []api.Modulus {
	const n = api.MaxModulus
	return []api.Modulus{
		{},
		{M: api.Nat{}, RR: api.Nat{}},
		{K: 1},
		{M: api.Nat{0}, K: 0, RR: api.Nat{0}},
		{M: api.Nat{1}, K: top, RR: api.Nat{0}},
		{M: api.Nat{1}, K: top, RR: api.Nat{1}},
		{M: api.Nat{1, 0}, K: top, RR: api.Nat{0, 0}},
		{M: api.Nat{7, 0}, K: 0x9249249249249249, RR: api.Nat{4, 0}},
		{M: api.Nat{7, 0}, K: 0x9249249249249249, RR: api.Nat{2, 0}},
		{M: api.Nat{7}, K: 0x9249249249249249, RR: api.Nat{11}},
		{M: api.Nat{8}, K: 0, RR: api.Nat{0}},
		{M: api.Nat{6}, K: 0, RR: api.Nat{4}},
		{M: api.Nat{0, 1}, K: 1, RR: api.Nat{0, 0}},
		{M: api.Nat{0, 0}, K: 1, RR: api.Nat{0, 0}},
		{M: full(n + 1), K: 1, RR: single(n+1, 0, 1)},
		{M: full(300), K: 1, RR: single(300, 0, 1)},
		{M: full(301), K: 1, RR: single(301, 0, 1)},
		{M: full(100000), K: 1, RR: single(100000, 0, 1)},
		{M: full(2), K: 1, RR: full(100000)},
		{M: full(2), K: 1, RR: full(2)},
		{M: behindNoughts(api.Nat{7}, 299), K: 0x9249249249249249, RR: single(300, 0, 4)},
	}
}

// P6.2
func TestCheckOfBogus(t *testing.T) {
	for _, m := range bogus() {
		if mont.Check(m) {
			t.Errorf("Check says yes to %x", m)
		}
	}
}

// P6.3: what comes times R is the product, modulo M, and it is below M; no other number is.
func TestMulAll(t *testing.T) {
	moduli(t, func(m api.Modulus, members []api.Nat) {
		for _, a := range members {
			for _, b := range members {
				got, e := mont.Mul(nil, m, a, b)
				if e != api.OK || len(got) != len(m.M) || !below(got, m.M) {
					t.Fatalf("Mul(%x, %x, %x): %x, %d", m.M, a, b, got, e)
				}
				if !slices.Equal(timesR(got, m.M), slowRest(slowMul(a, b), m.M)) {
					t.Fatalf("Mul(%x, %x, %x): %x", m.M, a, b, got)
				}
			}
		}
	})
}

// P6.4
func TestEnterAndLeave(t *testing.T) {
	moduli(t, func(m api.Modulus, members []api.Nat) {
		for _, a := range members {
			inside, e := mont.Enter(nil, m, a)
			if e != api.OK || !slices.Equal(inside, timesR(a, m.M)) {
				t.Fatalf("Enter(%x, %x): %x, %d", m.M, a, inside, e)
			}
			if back, e := mont.Leave(nil, m, inside); e != api.OK || !slices.Equal(back, a) {
				t.Fatalf("Leave(%x, %x): %x, %d, not %x", m.M, inside, back, e, a)
			}
			outside, e := mont.Leave(nil, m, a)
			if e != api.OK || len(outside) != len(m.M) || !below(outside, m.M) || !slices.Equal(timesR(outside, m.M), a) {
				t.Fatalf("Leave(%x, %x): %x, %d", m.M, a, outside, e)
			}
			if back, e := mont.Enter(nil, m, outside); e != api.OK || !slices.Equal(back, a) {
				t.Fatalf("Enter(%x, %x): %x, %d, not %x", m.M, outside, back, e, a)
			}
		}
	})
}

// P6.3, P6.4 in numbers written out: modulo 7, R is 2 and its inverse 4.
func TestExamples(t *testing.T) {
	m := set(t, api.Nat{7})
	for _, c := range []struct {
		name string
		a, b uint64
		want uint64
	}{
		{name: "Mul", a: 3, b: 5, want: 4},
		{name: "Mul", a: 6, b: 6, want: 4},
		{name: "Mul", a: 0, b: 6, want: 0},
		{name: "Mul", a: 1, b: 1, want: 4},
		{name: "Enter", a: 3, want: 6},
		{name: "Enter", a: 6, want: 5},
		{name: "Enter", a: 0, want: 0},
		{name: "Leave", a: 3, want: 5},
		{name: "Leave", a: 6, want: 3},
		{name: "Leave", a: 0, want: 0},
	} {
		for _, f := range calls() {
			if f.name != c.name {
				continue
			}
			if got, e := f.do(nil, m, api.Nat{c.a}, api.Nat{c.b}); e != api.OK || !slices.Equal(got, api.Nat{c.want}) {
				t.Errorf("%s(7, %d, %d): %d, %d, not %d", c.name, c.a, c.b, got, e, c.want)
			}
		}
	}
}

// call is one of the calls that take a trace, a modulus and members; Enter and Leave take no b.
type call struct {
	name string
	two  bool
	do   func(tr *trace.Trace, m api.Modulus, a, b api.Nat) (api.Nat, api.Errno)
}

func calls() []call {
	return []call{
		{"Mul", true, mont.Mul},
		{"Enter", false, func(tr *trace.Trace, m api.Modulus, a, b api.Nat) (api.Nat, api.Errno) { return mont.Enter(tr, m, a) }},
		{"Leave", false, func(tr *trace.Trace, m api.Modulus, a, b api.Nat) (api.Nat, api.Errno) { return mont.Leave(tr, m, a) }},
	}
}

// refused asks that a call answers ErrRange, and no number.
func refused(t *testing.T, c call, m api.Modulus, a, b api.Nat) {
	t.Helper()
	if got, e := c.do(nil, m, a, b); e != api.ErrRange || len(got) != 0 {
		t.Errorf("%s(%x, %x, %x): %x, %d", c.name, m, a, b, got, e)
	}
}

// P6.3, P6.4: operands that are no members.
func TestStrangers(t *testing.T) {
	moduli(t, func(m api.Modulus, members []api.Nat) {
		for _, c := range calls() {
			for _, x := range strangersTo(m.M) {
				for _, a := range []api.Nat{members[0], members[2], x} {
					refused(t, c, m, x, a)
					if c.two {
						refused(t, c, m, a, x)
					}
				}
			}
		}
	})
}

// P6.3, P6.4: moduli that Check says no to.
func TestWrongModuli(t *testing.T) {
	for _, x := range []api.Nat{{7}, {top}, full(2), with(mixture(3, 1), 0, 5), with(single(4, 3, 1), 0, 1)} {
		a := single(len(x), 0, 1)
		for _, m := range wrong(set(t, x)) {
			for _, c := range calls() {
				refused(t, c, m, a, a)
			}
		}
	}
	for _, m := range bogus() {
		for _, a := range []api.Nat{nil, {0}, {0, 0}, {1}, make(api.Nat, len(m.M))} {
			for _, c := range calls() {
				refused(t, c, m, a, a)
			}
		}
	}
}

// P6.5
func TestOne(t *testing.T) {
	moduli(t, func(m api.Modulus, _ []api.Nat) {
		n := len(m.M)
		one := mont.One(m)
		if !slices.Equal(one, timesR(single(n, 0, 1), m.M)) {
			t.Errorf("One(%x): %x", m.M, one)
		}
		if back, e := mont.Leave(nil, m, one); e != api.OK || !slices.Equal(back, single(n, 0, 1)) {
			t.Errorf("Leave(%x, %x): %x, %d", m.M, one, back, e)
		}
	})
	if one := mont.One(set(t, api.Nat{7})); !slices.Equal(one, api.Nat{2}) {
		t.Errorf("One(7): %d", one)
	}
}

// P6.5
func TestOneOfNone(t *testing.T) {
	for _, m := range slices.Concat(bogus(), wrong(set(t, api.Nat{7})), wrong(set(t, full(3)))) {
		if one := mont.One(m); len(one) != 0 {
			t.Errorf("One(%x): %x", m, one)
		}
	}
}

// P6.6
func TestRing(t *testing.T) {
	moduli(t, func(m api.Modulus, members []api.Nat) {
		for i, a := range members {
			b := members[(i+2)%len(members)]
			x, _ := mont.Enter(nil, m, a)
			y, _ := mont.Enter(nil, m, b)
			z, _ := mont.Mul(nil, m, x, y)
			got, e := mont.Leave(nil, m, z)
			if want := slowRest(slowMul(a, b), m.M); e != api.OK || !slices.Equal(got, want) {
				t.Errorf("%x times %x modulo %x: %x, %d, not %x", a, b, m.M, got, e, want)
			}
			if again, _ := mont.Mul(nil, m, mont.One(m), x); !slices.Equal(again, x) {
				t.Errorf("One times %x modulo %x: %x", x, m.M, again)
			}
		}
	})
}

// P6.3: what is written down hangs on n alone, whatever modulus and operands hold, and whether they are refused or not.
func TestSeen(t *testing.T) {
	for _, c := range calls() {
		var others []*trace.Trace
		for _, n := range []int{1, 2, 3, 5, api.MaxModulus} {
			first := trace.New()
			c.do(first, set(t, full(n)), make(api.Nat, n), make(api.Nat, n))
			if first.Many() == 0 {
				t.Errorf("%s writes nothing down of %d words", c.name, n)
			}
			for _, x := range ofLength(n) {
				m := set(t, x)
				for _, a := range slices.Concat(membersOf(x), strangersTo(x)) {
					for _, p := range [][2]api.Nat{{a, a}, {a, single(n, 0, 1)}, {single(n, 0, 1), a}} {
						checkSeen(t, c, first, m, p[0], p[1])
					}
				}
				if n < 4 {
					checkWrongSeen(t, c, first, m)
				}
			}
			for _, other := range others {
				if trace.Same(first, other) {
					t.Errorf("%s writes down the same of more words and of fewer", c.name)
				}
			}
			others = append(others, first)
		}
	}
}

func checkSeen(t *testing.T, c call, first *trace.Trace, m api.Modulus, a, b api.Nat) {
	t.Helper()
	tr := trace.New()
	c.do(tr, m, a, b)
	if !trace.Same(first, tr) {
		t.Errorf("%s(%x, %x, %x) writes down what others of that length don't", c.name, m, a, b)
	}
}

// checkWrongSeen asks what is written down with moduli as long as m that Check says no to.
func checkWrongSeen(t *testing.T, c call, first *trace.Trace, m api.Modulus) {
	t.Helper()
	n := len(m.M)
	for _, other := range wrong(m) {
		if len(other.M) == n {
			checkSeen(t, c, first, other, make(api.Nat, n), full(n))
		}
	}
}

// P3, P2.1: a trace that nobody made is let be, and the answers don't hang on it.
func TestTraceIsNothingToAnswers(t *testing.T) {
	var none *trace.Trace
	var zero trace.Trace
	spent := trace.New()
	for range 2 * api.MaxEvents {
		spent.Span(1)
	}
	for _, m := range []api.Modulus{set(t, api.Nat{7}), set(t, full(3)), {}, {M: api.Nat{8}, RR: api.Nat{0}}} {
		for _, c := range calls() {
			for _, a := range []api.Nat{nil, {5}, {7}, {1, 2, 3}, full(3)} {
				want, e := c.do(none, m, a, a)
				for _, tr := range []*trace.Trace{trace.New(), &zero, spent} {
					if got, f := c.do(tr, m, a, a); f != e || !slices.Equal(got, want) {
						t.Errorf("%s hangs on its trace: %x, %d, not %x, %d", c.name, got, f, want, e)
					}
				}
			}
		}
	}
	if none.Many() != 0 || len(none.Events()) != 0 {
		t.Error("something is written down in no trace")
	}
}

// P3: a nil list and an empty one are the same.
func TestNilAndEmpty(t *testing.T) {
	_, e := mont.Setup(nil)
	if _, f := mont.Setup(api.Nat{}); e != f {
		t.Errorf("Setup of no words: %d, %d", e, f)
	}
	m := set(t, api.Nat{7})
	for _, c := range calls() {
		refused(t, c, m, nil, nil)
		refused(t, c, m, api.Nat{}, api.Nat{})
		for _, other := range []api.Modulus{{M: m.M, K: m.K, RR: api.Nat{}}, {M: m.M, K: m.K}, {M: api.Nat{}, K: m.K, RR: m.RR}, {K: m.K, RR: m.RR}} {
			refused(t, c, other, api.Nat{1}, api.Nat{1})
		}
	}
}

// behind is x in a list with more behind it, and that list.
func behind(x api.Nat) (api.Nat, api.Nat) {
	list := append(slices.Clone(x), 99, 98, 97, 96)
	return list[:len(x)], list
}

// spoil overwrites all of a number, what lies behind its length too.
func spoil(x api.Nat) {
	x = x[:cap(x)]
	for i := range x {
		x[i] = 77
	}
}

// P2: Setup's answer is memory of its own, and nothing behind a list's length is read, written or handed out.
func TestSetupSharesNothing(t *testing.T) {
	for _, x := range []api.Nat{{7}, {7, 0}, full(3), behindNoughts(full(3), 2), {8}, {1}, nil, full(131)} {
		m, whole := behind(x)
		kept := slices.Clone(whole)
		want, e := mont.Setup(slices.Clone(x))
		got, f := mont.Setup(m)
		if f != e || !isOf(got, want) {
			t.Errorf("Setup reads what lies behind %x: %x, %d", x, got, f)
		}
		spoil(got.M)
		if !slices.Equal(got.RR, want.RR) {
			t.Errorf("Setup(%x): M and RR share memory", x)
		}
		spoil(got.RR)
		if !slices.Equal(whole, kept) {
			t.Errorf("Setup changed %x to %x", kept, whole)
		}
	}
}

// P2: each number stands in a list with more behind it, of which nothing may be read, written or handed out.
func TestNothingChanged(t *testing.T) {
	asked := append(calls(),
		call{"Check", false, func(tr *trace.Trace, m api.Modulus, a, b api.Nat) (api.Nat, api.Errno) {
			mont.Check(m)
			return nil, api.OK
		}},
		call{"One", false, func(tr *trace.Trace, m api.Modulus, a, b api.Nat) (api.Nat, api.Errno) { return mont.One(m), api.OK }})
	good := set(t, with(full(3), 0, 5))
	for _, of := range []api.Modulus{good, {M: good.M, K: 4, RR: good.RR}, {M: api.Nat{2, 3, 4}, K: 4, RR: good.RR}} {
		for _, c := range asked {
			for _, p := range [][2]api.Nat{{{1, 2, 3}, {top, 0, 5}}, {{4, top, top}, {4, top, top}}, {full(3), {1, 2, 3}}, {{1, 2}, {0, 0, 0, 0}}, {nil, {1}}} {
				checkUnchanged(t, c, of, p[0], p[1])
			}
		}
	}
}

func checkUnchanged(t *testing.T, c call, of api.Modulus, x, y api.Nat) {
	t.Helper()
	a, wholeA := behind(x)
	b, wholeB := behind(y)
	m, wholeM := behind(of.M)
	square, wholeRR := behind(of.RR)
	lists := []api.Nat{wholeA, wholeB, wholeM, wholeRR}
	var kept []api.Nat
	for _, list := range lists {
		kept = append(kept, slices.Clone(list))
	}
	want, e := c.do(nil, of, slices.Clone(x), slices.Clone(y))
	got, f := c.do(nil, api.Modulus{M: m, K: of.K, RR: square}, a, b)
	if f != e || !slices.Equal(got, want) {
		t.Errorf("%s reads what lies behind: %x, %d, not %x, %d", c.name, got, f, want, e)
	}
	spoil(got)
	for i, list := range lists {
		if !slices.Equal(list, kept[i]) {
			t.Errorf("%s changed %x to %x", c.name, kept[i], list)
		}
	}
}

// P2: a number given twice, or one of the modulus's own, is an operand like others.
func TestOneNumberTwice(t *testing.T) {
	m := set(t, with(mixture(4, 3), 0, 11))
	for _, x := range []api.Nat{slices.Clone(m.RR), with(m.M, 0, 10)} {
		for _, c := range calls() {
			want, _ := c.do(nil, m, slices.Clone(x), slices.Clone(x))
			if got, e := c.do(nil, m, x, x); e != api.OK || !slices.Equal(got, want) {
				t.Errorf("%s of a number and itself: %x, %d, not %x", c.name, got, e, want)
			}
		}
	}
	for _, c := range calls() {
		want, _ := c.do(nil, m, slices.Clone(m.RR), slices.Clone(m.RR))
		if got, e := c.do(nil, m, m.RR, m.RR); e != api.OK || !slices.Equal(got, want) || !mont.Check(m) {
			t.Errorf("%s of RR: %x, %d, not %x", c.name, got, e, want)
		}
		refused(t, c, m, m.M, m.M)
	}
}
