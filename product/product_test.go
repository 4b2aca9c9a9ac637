package product_test

import (
	"slices"
	"testing"

	"sconce/api"
	"sconce/product"
	"sconce/trace"
)

const top = uint64(1<<64 - 1)

// edges are words at which carries, borrows and guesses turn.
var edges = []uint64{0, 1, 1<<63 - 1, 1 << 63, top}

// full has n words, all of them ones.
func full(n int) api.Nat {
	return slices.Repeat(api.Nat{top}, n)
}

// single has n words, of which all but the one at a place are 0.
func single(n, place int, w uint64) api.Nat {
	x := make(api.Nat, n)
	x[place] = w
	return x
}

// mixture has n words that are spread, others for each seed.
func mixture(n int, seed uint64) api.Nat {
	x := make(api.Nat, n)
	w := 0x9e3779b97f4a7c15 * (2*seed + 1)
	for i := range x {
		w ^= w << 13
		w ^= w >> 7
		w ^= w << 17
		x[i] = w
	}
	return x
}

// ofEdges are all numbers of n words that are edges.
func ofEdges(n int) []api.Nat {
	list := []api.Nat{{}}
	for range n {
		var longer []api.Nat
		for _, x := range list {
			for _, w := range edges {
				longer = append(longer, append(slices.Clone(x), w))
			}
		}
		list = longer
	}
	return list
}

// numbers are of many lengths, some without words, with noughts at the top, at the bottom and between.
func numbers() []api.Nat {
	list := slices.Concat([]api.Nat{nil}, ofEdges(0), ofEdges(1), ofEdges(2))
	list = append(list, api.Nat{5, 0, 7}, api.Nat{0, 0, 1}, api.Nat{0, 1, 0}, api.Nat{top, 0, 0, 0}, api.Nat{0, 0, 0, 0, 0})
	for n := 1; n < 7; n++ {
		list = append(list, full(n), mixture(n, 1), mixture(n, 2))
	}
	return list
}

// longNumbers have just MaxWords words, or nearly as many.
func longNumbers() []api.Nat {
	list := []api.Nat{nil, {1}, {top}, mixture(130, 6)}
	for _, n := range []int{api.MaxWords - 1, api.MaxWords} {
		list = append(list, full(n), single(n, 0, 1), single(n, n-1, 1), mixture(n, 3))
	}
	return list
}

// pairs goes through all pairs of numbers, and of long ones.
func pairs(each func(a, b api.Nat)) {
	for _, list := range [][]api.Nat{numbers(), longNumbers()} {
		for _, a := range list {
			for _, b := range list {
				each(a, b)
			}
		}
	}
}

// digitsOf are the digits of x at base 2^16, the lowest ahead.
func digitsOf(x api.Nat) []uint64 {
	var list []uint64
	for _, w := range x {
		list = append(list, w&0xffff, w>>16&0xffff, w>>32&0xffff, w>>48)
	}
	return list
}

// natOf is the number of digits, each of which may be far greater than its base, in n words; it has to fit.
func natOf(t *testing.T, digits []uint64, n int) api.Nat {
	t.Helper()
	x := make(api.Nat, n)
	var carry uint64
	for i := range max(len(digits), 4*n) {
		if i < len(digits) {
			carry += digits[i]
		}
		if i < 4*n {
			x[i/4] |= carry & 0xffff << (16 * (i % 4))
			carry >>= 16
		}
	}
	if carry != 0 {
		t.Fatalf("%d words are too few", n)
	}
	return x
}

// slowMul is a b + c in n words, reckoned digit by digit.
func slowMul(t *testing.T, a, b, c api.Nat, n int) api.Nat {
	t.Helper()
	x, y, z := digitsOf(a), digitsOf(b), digitsOf(c)
	sums := make([]uint64, max(len(x)+len(y), len(z)))
	copy(sums, z)
	for i, d := range x {
		for j, e := range y {
			sums[i+j] += d * e
		}
	}
	return natOf(t, sums, n)
}

// below says whether a is below b, told from the highest word down.
func below(a, b api.Nat) bool {
	for i := max(len(a), len(b)) - 1; i >= 0; i-- {
		if v, w := wordAt(a, i), wordAt(b, i); v != w {
			return v < w
		}
	}
	return false
}

func wordAt(x api.Nat, i int) uint64 {
	if i < len(x) {
		return x[i]
	}
	return 0
}

func isZero(x api.Nat) bool {
	return !below(nil, x)
}

func spans(many, n int) []api.Event {
	return slices.Repeat([]api.Event{{Kind: api.EvSpan, A: n}}, many)
}

func checkSeen(t *testing.T, what string, tr *trace.Trace, want []api.Event) {
	t.Helper()
	if tr.Many() != len(want) || !slices.Equal(tr.Events(), want) {
		t.Errorf("%s: written down %v, not %v", what, tr.Events(), want)
	}
}

// P5.1 and the chapter's example.
func TestMulExamples(t *testing.T) {
	for _, c := range []struct{ a, b, want api.Nat }{
		{api.Nat{top}, api.Nat{top}, api.Nat{1, top - 1}},
		{api.Nat{top, top}, api.Nat{top}, api.Nat{1, top, top - 1}},
		{api.Nat{top}, api.Nat{top, top}, api.Nat{1, top, top - 1}},
		{api.Nat{top, top}, api.Nat{top, top}, api.Nat{1, 0, top - 1, top}},
		{nil, nil, nil},
		{api.Nat{}, nil, nil},
		{api.Nat{5, 6}, nil, api.Nat{0, 0}},
		{nil, api.Nat{5, 6, 7}, api.Nat{0, 0, 0}},
		{api.Nat{0}, api.Nat{5, 6}, api.Nat{0, 0, 0}},
		{api.Nat{3}, api.Nat{5}, api.Nat{15, 0}},
		{api.Nat{0, 1}, api.Nat{0, 0, 1}, api.Nat{0, 0, 0, 1, 0}},
		{api.Nat{2, 0, 0}, api.Nat{1 << 63}, api.Nat{0, 1, 0, 0}},
	} {
		if got := product.Mul(nil, c.a, c.b); !slices.Equal(got, c.want) {
			t.Errorf("Mul(%x, %x): %x, not %x", c.a, c.b, got, c.want)
		}
	}
}

// P5.1
func TestMulAll(t *testing.T) {
	pairs(func(a, b api.Nat) {
		want := slowMul(t, a, b, nil, len(a)+len(b))
		if got := product.Mul(nil, a, b); !slices.Equal(got, want) {
			t.Fatalf("Mul(%x, %x): %x, not %x", a, b, got, want)
		}
	})
}

// P5.1: a span of b's length for each word of a, also where a word is 0, also of length 0.
func TestMulSeen(t *testing.T) {
	pairs(func(a, b api.Nat) {
		tr := trace.New()
		tr.Branch(true)
		product.Mul(tr, a, b)
		checkSeen(t, "Mul", tr, append([]api.Event{{Kind: api.EvBranch, A: 1}}, spans(len(a), len(b))...))
	})
}

// P5.2
func TestMulWordExamples(t *testing.T) {
	for _, c := range []struct {
		a     api.Nat
		w     uint64
		c     api.Nat
		want  api.Nat
		above uint64
	}{
		{api.Nat{top}, top, api.Nat{top, 5}, api.Nat{0, 4}, 1},
		{nil, 5, nil, nil, 0},
		{nil, top, api.Nat{7, 8}, api.Nat{7, 8}, 0},
		{api.Nat{7, 8}, top, nil, api.Nat{top - 6, top - 1}, 7},
		{api.Nat{7, 8}, 0, nil, api.Nat{0, 0}, 0},
		{api.Nat{7, 8}, 0, api.Nat{3}, api.Nat{3, 0}, 0},
		{api.Nat{7, 8}, 1, api.Nat{3}, api.Nat{10, 8}, 0},
		{api.Nat{2}, 3, api.Nat{top, top, top}, api.Nat{5, 0, 0}, 1},
		{api.Nat{top}, top, api.Nat{top}, api.Nat{0}, top},
		{api.Nat{top, top}, top, api.Nat{top, top}, api.Nat{0, top}, top},
		{api.Nat{0, 1 << 63}, 2, nil, api.Nat{0, 0}, 1},
	} {
		got, above := product.MulWord(nil, c.a, c.w, c.c)
		if !slices.Equal(got, c.want) || above != c.above {
			t.Errorf("MulWord(%x, %x, %x): %x, %x, not %x, %x", c.a, c.w, c.c, got, above, c.want, c.above)
		}
	}
}

// P5.2
func TestMulWordAll(t *testing.T) {
	pairs(func(a, c api.Nat) {
		length := max(len(a), len(c))
		for _, w := range append([]uint64{0x123456789abcdef}, edges...) {
			want := slowMul(t, a, api.Nat{w}, c, length+1)
			tr := trace.New()
			got, above := product.MulWord(tr, a, w, c)
			if !slices.Equal(got, want[:length]) || above != want[length] {
				t.Fatalf("MulWord(%x, %x, %x): %x, %x, not %x", a, w, c, got, above, want)
			}
			checkSeen(t, "MulWord", tr, spans(1, length))
		}
	})
}

// P5.1, P5.2: of more words than MaxWords, in either operand or both, there is no number.
func TestMulTooLong(t *testing.T) {
	tr := trace.New()
	for _, n := range []int{api.MaxWords + 1, 2 * api.MaxWords, 10000} {
		for _, long := range []api.Nat{make(api.Nat, n), full(n)} {
			for _, other := range []api.Nat{nil, {0}, {1}, full(api.MaxWords), long} {
				for _, p := range [][2]api.Nat{{long, other}, {other, long}} {
					if got := product.Mul(tr, p[0], p[1]); len(got) != 0 {
						t.Errorf("Mul of %d and %d words: %x", len(p[0]), len(p[1]), got)
					}
					if got, above := product.MulWord(tr, p[0], 3, p[1]); len(got) != 0 || above != 0 {
						t.Errorf("MulWord of %d and %d words: %x, %x", len(p[0]), len(p[1]), got, above)
					}
				}
			}
		}
	}
	checkSeen(t, "no product", tr, nil)
}

// division is one of the two calls that divide.
type division struct {
	name string
	do   func(a, m api.Nat) (api.Nat, api.Nat, api.Errno)
}

func divisions() []division {
	return []division{
		{"Divide", func(a, m api.Nat) (api.Nat, api.Nat, api.Errno) { return product.Divide(nil, a, m) }},
		{"Quick", product.Quick},
	}
}

// P5.3, P5.4 and the chapter's example.
func TestDivideExamples(t *testing.T) {
	for _, c := range []struct{ a, m, quotient, rest api.Nat }{
		{api.Nat{7, 0}, api.Nat{2}, api.Nat{3, 0}, api.Nat{1}},
		{api.Nat{5, 0, 7}, api.Nat{0, 2}, api.Nat{1 << 63, 3, 0}, api.Nat{5, 0}},
		{api.Nat{5}, api.Nat{7, 0, 1}, api.Nat{0}, api.Nat{5, 0, 0}},
		{api.Nat{7}, api.Nat{2, 0, 0}, api.Nat{3}, api.Nat{1, 0, 0}},
		{api.Nat{7, 9}, api.Nat{1}, api.Nat{7, 9}, api.Nat{0}},
		{api.Nat{7, 9}, api.Nat{1, 0}, api.Nat{7, 9}, api.Nat{0, 0}},
		{api.Nat{0, 6}, api.Nat{3}, api.Nat{0, 2}, api.Nat{0}},
		{api.Nat{top, top}, api.Nat{top, top}, api.Nat{1, 0}, api.Nat{0, 0}},
		{api.Nat{top - 1, top}, api.Nat{top, top}, api.Nat{0, 0}, api.Nat{top - 1, top}},
		{api.Nat{top, top, 0}, api.Nat{top}, api.Nat{1, 1, 0}, api.Nat{0}},
		{nil, api.Nat{5, 0}, nil, api.Nat{0, 0}},
		{api.Nat{}, api.Nat{1}, nil, api.Nat{0}},
		{api.Nat{0, 0}, api.Nat{9}, api.Nat{0, 0}, api.Nat{0}},
		// The highest words alone make the guess too great; of the last of these even the two highest of the divisor do.
		{api.Nat{3, 0, 1 << 63}, api.Nat{1, 0, 1 << 61}, api.Nat{3, 0, 0}, api.Nat{0, 0, 1 << 61}},
		{api.Nat{0, top - 1, 1 << 63}, api.Nat{top, 1 << 63}, api.Nat{top, 0, 0}, api.Nat{top, 1<<63 - 1}},
		{api.Nat{0, 0, 1 << 63, 1<<63 - 1}, api.Nat{1, 0, 1 << 63}, api.Nat{top - 1, 0, 0, 0}, api.Nat{2, top, 1<<63 - 1}},
	} {
		for _, d := range divisions() {
			quotient, rest, e := d.do(c.a, c.m)
			if e != api.OK || !slices.Equal(quotient, c.quotient) || !slices.Equal(rest, c.rest) {
				t.Errorf("%s(%x, %x): %x, %x, %d, not %x, %x", d.name, c.a, c.m, quotient, rest, e, c.quotient, c.rest)
			}
		}
	}
}

// checkDivision asks P5.6, which leaves just one quotient and rest, and the lengths of both.
func checkDivision(t *testing.T, d division, a, m api.Nat) {
	t.Helper()
	quotient, rest, e := d.do(a, m)
	if isZero(m) {
		if e != api.ErrRange || len(quotient) != 0 || len(rest) != 0 {
			t.Fatalf("%s(%x, %x): %x, %x, %d", d.name, a, m, quotient, rest, e)
		}
		return
	}
	if e != api.OK || len(quotient) != len(a) || len(rest) != len(m) || !below(rest, m) {
		t.Fatalf("%s(%x, %x): %x, %x, %d", d.name, a, m, quotient, rest, e)
	}
	length := len(a) + len(m)
	if back := slowMul(t, quotient, m, rest, length); !slices.Equal(back, append(slices.Clone(a), make(api.Nat, len(m))...)) {
		t.Fatalf("%s(%x, %x): %x, %x, which come to %x", d.name, a, m, quotient, rest, back)
	}
}

// P5.3, P5.4, P5.6
func TestDivideAll(t *testing.T) {
	for _, d := range divisions() {
		for _, a := range numbers() {
			for _, m := range numbers() {
				checkDivision(t, d, a, m)
			}
		}
	}
}

// P5.3, P5.6: operands of just MaxWords words, with divisors of all lengths.
func TestDivideLong(t *testing.T) {
	n := api.MaxWords
	for _, m := range []api.Nat{{3}, mixture(150, 5), append(mixture(9, 5), make(api.Nat, n-9)...), mixture(n, 5), single(n, n-1, 1), full(n), make(api.Nat, n)} {
		checkDivision(t, divisions()[0], mixture(n, 4), m)
	}
	checkDivision(t, divisions()[0], api.Nat{5, 6}, mixture(n, 5))
	checkDivision(t, divisions()[0], full(n), full(n))
}

// P5.4, P5.6: what the long division goes by are the highest words; so they are taken through all edges.
func TestQuickAll(t *testing.T) {
	for _, a := range ofEdges(4) {
		for _, m := range slices.Concat(ofEdges(2), ofEdges(3)) {
			checkDivision(t, divisions()[1], a, m)
		}
	}
	pairs(func(a, m api.Nat) { checkDivision(t, divisions()[1], a, m) })
}

// P5.3, P5.4, P5.6: a that is made of a quotient and a rest gives both back, also with noughts at the divisor's top and with rests of 0 and of m less 1.
func TestDivideMade(t *testing.T) {
	for _, quotient := range []api.Nat{{0}, {1}, {top}, {0, 1}, mixture(2, 7), full(3), {top - 1, 0, top}} {
		for _, m := range []api.Nat{{1}, {2}, {10, 0}, {top}, {1, 1 << 63}, mixture(2, 8), full(2), append(mixture(2, 9), 0, 0)} {
			less := slices.Clone(m)
			less[0]--
			for _, rest := range []api.Nat{make(api.Nat, len(m)), less} {
				a := slowMul(t, quotient, m, rest, len(quotient)+len(m))
				for _, d := range divisions() {
					q, r, e := d.do(a, m)
					want := append(slices.Clone(quotient), make(api.Nat, len(m))...)
					if e != api.OK || !slices.Equal(q, want) || !slices.Equal(r, rest) {
						t.Errorf("%s(%x, %x): %x, %x, %d, not %x, %x", d.name, a, m, q, r, e, want, rest)
					}
				}
			}
		}
	}
}

// P5.3, P5.4, P4: ErrLong ahead of ErrRange, and nothing beside an error.
func TestDivideErrors(t *testing.T) {
	long := api.MaxWords + 1
	for _, c := range []struct {
		a, m api.Nat
		want api.Errno
	}{
		{api.Nat{5}, api.Nat{0}, api.ErrRange},
		{api.Nat{5}, api.Nat{0, 0, 0}, api.ErrRange},
		{api.Nat{5}, nil, api.ErrRange},
		{api.Nat{5}, api.Nat{}, api.ErrRange},
		{nil, nil, api.ErrRange},
		{nil, api.Nat{0}, api.ErrRange},
		{api.Nat{0}, api.Nat{0}, api.ErrRange},
		{full(api.MaxWords), api.Nat{0}, api.ErrRange},
		{full(2), make(api.Nat, api.MaxWords), api.ErrRange},
		{make(api.Nat, long), api.Nat{1}, api.ErrLong},
		{full(long), api.Nat{1}, api.ErrLong},
		{api.Nat{1}, full(long), api.ErrLong},
		{nil, single(long, 0, 1), api.ErrLong},
		{full(long), full(long), api.ErrLong},
		{full(long), nil, api.ErrLong},
		{full(long), api.Nat{0}, api.ErrLong},
		{api.Nat{1}, make(api.Nat, long), api.ErrLong},
		{full(5000), full(2), api.ErrLong},
	} {
		for _, d := range divisions() {
			quotient, rest, e := d.do(c.a, c.m)
			if e != c.want || len(quotient) != 0 || len(rest) != 0 {
				t.Errorf("%s of %d and %d words: %x, %x, %d, not %d", d.name, len(c.a), len(c.m), quotient, rest, e, c.want)
			}
		}
	}
}

// P5.3: what is written down hangs on both lengths alone, also where m is 0.
func TestDivideSeen(t *testing.T) {
	for _, n := range []int{0, 1, 2, 3, 7} {
		for _, k := range []int{0, 1, 2, 4, 9} {
			first := trace.New()
			product.Divide(first, make(api.Nat, n), make(api.Nat, k))
			if n > 0 && first.Many() == 0 {
				t.Errorf("Divide of %d words writes nothing down", n)
			}
			as := []api.Nat{full(n), mixture(n, 1), mixture(n, 2)}
			ms := []api.Nat{make(api.Nat, k), full(k), mixture(k, 3), mixture(k, 4)}
			for i := range k {
				ms = append(ms, single(k, i, 1), single(k, i, 1<<63))
			}
			for _, a := range as {
				for _, m := range ms {
					tr := trace.New()
					product.Divide(tr, a, m)
					if !trace.Same(first, tr) {
						t.Errorf("Divide(%x, %x) writes down what others of its lengths don't", a, m)
					}
				}
			}
		}
	}
}

// P5.3, at the limit and above it.
func TestDivideSeenLong(t *testing.T) {
	for _, n := range []int{130, api.MaxWords, api.MaxWords + 1} {
		first, second := trace.New(), trace.New()
		product.Divide(first, full(n), single(n, 0, 1))
		product.Divide(second, single(n, 3, 1), mixture(n, 1))
		if !trace.Same(first, second) {
			t.Errorf("Divide of %d words", n)
		}
	}
}

// P5.5
func TestSmallExamples(t *testing.T) {
	for _, c := range []struct {
		a    api.Nat
		d    uint64
		want uint64
	}{
		{api.Nat{0, 1}, 10, 6},
		{api.Nat{7}, 2, 1},
		{api.Nat{7, 9}, 1, 0},
		{nil, 1, 0},
		{nil, 5, 0},
		{api.Nat{}, top, 0},
		{api.Nat{0, 0}, 3, 0},
		{api.Nat{top}, top, 0},
		{api.Nat{top - 1}, top, top - 1},
		{api.Nat{5, 6, 7}, top, 18},
		{api.Nat{top, top}, 1 << 63, 1<<63 - 1},
		{api.Nat{4, 0, 0, 0}, 7, 4},
	} {
		if got, e := product.Small(c.a, c.d); e != api.OK || got != c.want {
			t.Errorf("Small(%x, %x): %x, %d, not %x", c.a, c.d, got, e, c.want)
		}
	}
}

// P5.5: bit by bit it comes to the same; numbers of more than MaxWords words are numbers here, too.
func TestSmallAll(t *testing.T) {
	lists := slices.Concat(numbers(), longNumbers(), []api.Nat{full(api.MaxWords + 1), mixture(1000, 3)})
	for _, a := range lists {
		for _, d := range []uint64{1, 2, 3, 10, 997, 1<<32 - 1, 1 << 32, 0x123456789abcdef, 1<<63 - 1, 1 << 63, 1<<63 + 1, top - 1, top} {
			if got, e := product.Small(a, d); e != api.OK || got != slowRest(a, d) {
				t.Fatalf("Small(%x, %x): %x, %d", a, d, got, e)
			}
		}
	}
}

// slowRest doubles and takes away.
func slowRest(a api.Nat, d uint64) uint64 {
	var rest uint64
	for i := 64*len(a) - 1; i >= 0; i-- {
		over := rest >> 63
		rest = rest<<1 | a[i/64]>>(i%64)&1
		if over == 1 || rest >= d {
			rest -= d
		}
	}
	return rest
}

// P5.5
func TestSmallByNought(t *testing.T) {
	for _, a := range slices.Concat(numbers(), longNumbers()) {
		if got, e := product.Small(a, 0); e != api.ErrRange || got != 0 {
			t.Errorf("Small(%x, 0): %x, %d", a, got, e)
		}
	}
}

// call is one of the package's calls; what it answers is told as numbers.
type call struct {
	name string
	do   func(tr *trace.Trace, a, b api.Nat) []api.Nat
}

func calls() []call {
	divided := func(q, r api.Nat, e api.Errno) []api.Nat { return []api.Nat{q, r, {uint64(e)}} }
	return []call{
		{"Mul", func(tr *trace.Trace, a, b api.Nat) []api.Nat { return []api.Nat{product.Mul(tr, a, b)} }},
		{"MulWord", func(tr *trace.Trace, a, b api.Nat) []api.Nat {
			out, above := product.MulWord(tr, a, top-4, b)
			return []api.Nat{out, {above}}
		}},
		{"MulWord by 0", func(tr *trace.Trace, a, b api.Nat) []api.Nat {
			out, above := product.MulWord(tr, a, 0, b)
			return []api.Nat{out, {above}}
		}},
		{"Divide", func(tr *trace.Trace, a, b api.Nat) []api.Nat { return divided(product.Divide(tr, a, b)) }},
		{"Quick", func(tr *trace.Trace, a, b api.Nat) []api.Nat { return divided(product.Quick(a, b)) }},
		{"Small", func(tr *trace.Trace, a, b api.Nat) []api.Nat {
			rest, e := product.Small(a, uint64(len(b)))
			return []api.Nat{{rest, uint64(e)}}
		}},
	}
}

func alike(a, b []api.Nat) bool {
	return slices.EqualFunc(a, b, slices.Equal[api.Nat])
}

// P3 and P2.1: a trace that nobody made is let be, and the answers don't hang on it.
func TestTraceIsNothingToAnswers(t *testing.T) {
	var none *trace.Trace
	var zero trace.Trace
	for _, c := range calls() {
		for _, p := range [][2]api.Nat{{{5, 0, top}, {1, 2, 3}}, {{5, 0, top}, {7}}, {{1}, {5, 0, top}}, {nil, {1, 2}}, {{1, 2}, nil}, {nil, nil}, {full(301), {1}}} {
			want := c.do(none, p[0], p[1])
			for _, tr := range []*trace.Trace{trace.New(), &zero} {
				if got := c.do(tr, p[0], p[1]); !alike(got, want) {
					t.Errorf("%s hangs on its trace: %x, not %x", c.name, got, want)
				}
			}
		}
	}
	if none.Many() != 0 || len(none.Events()) != 0 {
		t.Error("something is written down in no trace")
	}
}

// P3: a nil list and an empty one are the same.
func TestNilAndEmpty(t *testing.T) {
	for _, c := range calls() {
		for _, other := range []api.Nat{nil, {5, top}, full(301)} {
			if !alike(c.do(nil, nil, other), c.do(nil, api.Nat{}, other)) || !alike(c.do(nil, other, nil), c.do(nil, other, api.Nat{})) {
				t.Errorf("%s of no words", c.name)
			}
		}
	}
}

// spoil overwrites all of a number, what lies behind its length too.
func spoil(x api.Nat) {
	x = x[:cap(x)]
	for i := range x {
		x[i] = 77
	}
}

// behind is x in a list with more behind it, and that list.
func behind(x api.Nat) (api.Nat, api.Nat) {
	list := append(slices.Clone(x), 99, 98, 97, 96)
	return list[:len(x)], list
}

// P2: each number stands in a list with more behind it, of which nothing may be read, written or handed out.
func TestNothingChanged(t *testing.T) {
	for _, c := range calls() {
		for _, p := range [][2]api.Nat{{{5, 0, top}, {1, 2, 3}}, {{5, 0, top}, {top}}, {{5, 0, top}, {1, 0}}, {{1}, {5, 0, top}}, {{5, 6, 7}, {0, 1 << 63}}, {nil, {1, 2}}, {{1, 2}, nil}, {{1, 2}, {0}}, {nil, nil}} {
			a, wholeA := behind(p[0])
			b, wholeB := behind(p[1])
			keptA, keptB := slices.Clone(wholeA), slices.Clone(wholeB)
			want := c.do(nil, slices.Clone(p[0]), slices.Clone(p[1]))
			got := c.do(nil, a, b)
			if !alike(got, want) {
				t.Errorf("%s reads what lies behind: %x, not %x", c.name, got, want)
			}
			for i, x := range got {
				spoil(x)
				if !alike(got[i+1:], want[i+1:]) {
					t.Errorf("%s: two answers share memory", c.name)
				}
			}
			if !slices.Equal(wholeA, keptA) || !slices.Equal(wholeB, keptB) {
				t.Errorf("%s changed %x, %x to %x, %x", c.name, keptA, keptB, wholeA, wholeB)
			}
		}
	}
}

// P2: a number given twice is one operand and the other.
func TestOneNumberTwice(t *testing.T) {
	x := api.Nat{5, 0, top}
	for _, c := range calls() {
		if !alike(c.do(nil, x, x), c.do(nil, slices.Clone(x), slices.Clone(x))) {
			t.Errorf("%s of a number and itself", c.name)
		}
	}
	if !slices.Equal(x, api.Nat{5, 0, top}) {
		t.Errorf("a number given twice is changed to %x", x)
	}
}
