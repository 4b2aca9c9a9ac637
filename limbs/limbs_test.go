package limbs_test

import (
	"slices"
	"testing"

	"sconce/api"
	"sconce/limbs"
	"sconce/trace"
)

const top = uint64(1<<64 - 1)

// bitWords are words as bits: only the lowest bit may count.
var bitWords = []uint64{0, 1, 2, 3, 1 << 63, 1<<63 + 1, top - 1, top}

// full has n words, all of them ones.
func full(n int) api.Nat {
	return slices.Repeat(api.Nat{top}, n)
}

// single has n words, of which all but the one at a place are 0.
func single(n, place int, w uint64) api.Nat {
	x := make(api.Nat, n)
	x[place] = w
	return x
}

// mixture has n words that are spread, others for each seed.
func mixture(n int, seed uint64) api.Nat {
	x := make(api.Nat, n)
	w := 0x9e3779b97f4a7c15 * (2*seed + 1)
	for i := range x {
		w ^= w << 13
		w ^= w >> 7
		w ^= w << 17
		x[i] = w
	}
	return x
}

// numbers are of many lengths, some without words, with noughts at the top, at the bottom and between.
func numbers() []api.Nat {
	list := []api.Nat{nil, {}, {0}, {1}, {2}, {3}, {1 << 63}, {top - 1}, {top},
		{0, 0}, {1, 0}, {0, 1}, {1, 1}, {top, 0}, {0, top}, {top, top}, {top - 1, top}, {top, top - 1}, {1 << 63, 1 << 63}, {0, 1 << 63},
		{5, 0, 7}, {5, 0, 8}, {6, 0, 7}, {0, 0, 1}, {0, 1, 0}, {1, 0, 0}, {top, 0, 0, 0}}
	for _, n := range []int{1, 2, 3, 5} {
		list = append(list, full(n), make(api.Nat, n), mixture(n, 1), mixture(n, 2))
	}
	return list
}

// longNumbers are longer than MaxWords, too: no length is too long here.
func longNumbers() []api.Nat {
	list := []api.Nat{nil, {1}, {top}}
	for _, n := range []int{130, api.MaxWords, api.MaxWords + 1} {
		list = append(list, full(n), make(api.Nat, n), single(n, 0, 1), single(n, n-1, 1), mixture(n, 3))
	}
	return list
}

func pairs(each func(a, b api.Nat)) {
	for _, list := range [][]api.Nat{numbers(), longNumbers()} {
		for _, a := range list {
			for _, b := range list {
				each(a, b)
			}
		}
	}
}

// extended is x with noughts behind, up to n words.
func extended(x api.Nat, n int) api.Nat {
	out := make(api.Nat, n)
	for i, w := range x {
		out[i] = w
	}
	return out
}

// bitsOf are the bits of x in n words, the lowest ahead.
func bitsOf(x api.Nat, n int) []int {
	list := make([]int, 64*n)
	for i, w := range x {
		for j := range 64 {
			list[64*i+j] = int(w >> j & 1)
		}
	}
	return list
}

func natOf(bits []int) api.Nat {
	x := make(api.Nat, len(bits)/64)
	for i, bit := range bits {
		x[i/64] |= uint64(bit) << (i % 64)
	}
	return x
}

// slowAdd adds bit by bit.
func slowAdd(a, b api.Nat) (api.Nat, uint64) {
	n := max(len(a), len(b))
	x, y, carry := bitsOf(a, n), bitsOf(b, n), 0
	for i := range x {
		sum := x[i] + y[i] + carry
		x[i], carry = sum%2, sum/2
	}
	return natOf(x), uint64(carry)
}

// slowSub takes away bit by bit.
func slowSub(a, b api.Nat) (api.Nat, uint64) {
	n := max(len(a), len(b))
	x, y, borrow := bitsOf(a, n), bitsOf(b, n), 0
	for i := range x {
		rest := x[i] - y[i] - borrow + 2
		x[i], borrow = rest%2, 1-rest/2
	}
	return natOf(x), uint64(borrow)
}

// order is -1, 0, 1, as a is below, equal to, above b, told from the highest bit down.
func order(a, b api.Nat) int {
	n := max(len(a), len(b))
	x, y := bitsOf(a, n), bitsOf(b, n)
	slices.Reverse(x)
	slices.Reverse(y)
	return slices.Compare(x, y)
}

func number(is bool) uint64 {
	if is {
		return 1
	}
	return 0
}

func spans(lengths ...int) []api.Event {
	var list []api.Event
	for _, n := range lengths {
		list = append(list, api.Event{Kind: api.EvSpan, A: n})
	}
	return list
}

func checkSeen(t *testing.T, what string, tr *trace.Trace, want []api.Event) {
	t.Helper()
	if tr.Many() != len(want) || !slices.Equal(tr.Events(), want) {
		t.Errorf("%s: written down %v, not %v", what, tr.Events(), want)
	}
}

// check holds a number and a bit against what is wanted.
func check(t *testing.T, what string, got api.Nat, bit uint64, want api.Nat, wantBit uint64) {
	t.Helper()
	if !slices.Equal(got, want) || bit != wantBit {
		t.Fatalf("%s: %x, %d, not %x, %d", what, got, bit, want, wantBit)
	}
}

// P4.1 and the chapter's example.
func TestAddExamples(t *testing.T) {
	for _, c := range []struct {
		a, b, want api.Nat
		carry      uint64
	}{
		{api.Nat{top}, api.Nat{1}, api.Nat{0}, 1},
		{nil, nil, nil, 0},
		{api.Nat{}, nil, nil, 0},
		{nil, api.Nat{5, 6}, api.Nat{5, 6}, 0},
		{api.Nat{5, 6}, nil, api.Nat{5, 6}, 0},
		{api.Nat{1}, api.Nat{2}, api.Nat{3}, 0},
		{api.Nat{top}, api.Nat{1, 0}, api.Nat{0, 1}, 0},
		{api.Nat{1}, api.Nat{top, 0}, api.Nat{0, 1}, 0},
		{api.Nat{top, top, top}, api.Nat{1}, api.Nat{0, 0, 0}, 1},
		{api.Nat{1}, api.Nat{top, top, top}, api.Nat{0, 0, 0}, 1},
		{api.Nat{top, top}, api.Nat{top, top}, api.Nat{top - 1, top}, 1},
		{api.Nat{0, 1 << 63}, api.Nat{7, 1 << 63}, api.Nat{7, 0}, 1},
	} {
		sum, carry := limbs.Add(nil, c.a, c.b)
		check(t, "Add", sum, carry, c.want, c.carry)
	}
}

// P4.1 and the chapter's example.
func TestSubExamples(t *testing.T) {
	for _, c := range []struct {
		a, b, want api.Nat
		borrow     uint64
	}{
		{api.Nat{0}, api.Nat{1}, api.Nat{top}, 1},
		{nil, nil, nil, 0},
		{nil, api.Nat{}, nil, 0},
		{nil, api.Nat{0, 0}, api.Nat{0, 0}, 0},
		{nil, api.Nat{1, 0}, api.Nat{top, top}, 1},
		{api.Nat{5, 6}, nil, api.Nat{5, 6}, 0},
		{api.Nat{5}, api.Nat{3}, api.Nat{2}, 0},
		{api.Nat{3}, api.Nat{5}, api.Nat{top - 1}, 1},
		{api.Nat{0, 0, 1}, api.Nat{1}, api.Nat{top, top, 0}, 0},
		{api.Nat{0, 0, 0}, api.Nat{1}, api.Nat{top, top, top}, 1},
		{api.Nat{0}, api.Nat{1, 0, 0}, api.Nat{top, top, top}, 1},
		{api.Nat{5, 6}, api.Nat{5, 6}, api.Nat{0, 0}, 0},
		{api.Nat{5, 6}, api.Nat{6, 6}, api.Nat{top, top}, 1},
		{api.Nat{top}, api.Nat{0, top}, api.Nat{top, 1}, 1},
	} {
		rest, borrow := limbs.Sub(nil, c.a, c.b)
		check(t, "Sub", rest, borrow, c.want, c.borrow)
	}
}

// P4.1
func TestAddSubAll(t *testing.T) {
	pairs(func(a, b api.Nat) {
		want, wantBit := slowAdd(a, b)
		sum, carry := limbs.Add(nil, a, b)
		check(t, "Add", sum, carry, want, wantBit)
		want, wantBit = slowSub(a, b)
		rest, borrow := limbs.Sub(nil, a, b)
		check(t, "Sub", rest, borrow, want, wantBit)
	})
}

// P4.2
func TestLessEqualAll(t *testing.T) {
	pairs(func(a, b api.Nat) {
		want := order(a, b)
		if got := limbs.Less(nil, a, b); got != number(want < 0) {
			t.Fatalf("Less(%x, %x): %d", a, b, got)
		}
		if got := limbs.Equal(nil, a, b); got != number(want == 0) {
			t.Fatalf("Equal(%x, %x): %d", a, b, got)
		}
	})
}

// P4.2: one bit makes a number another one, wherever it stands, in the lowest word or the highest alone.
func TestOneBit(t *testing.T) {
	for _, n := range []int{1, 2, 3, 7} {
		for _, x := range []api.Nat{make(api.Nat, n), full(n), mixture(n, 4)} {
			for i := range 64 * n {
				y := slices.Clone(x)
				y[i/64] ^= 1 << (i % 64)
				below := number(x[i/64] < y[i/64])
				if limbs.Equal(nil, x, y) != 0 || limbs.Less(nil, x, y) != below || limbs.Less(nil, y, x) != 1-below {
					t.Fatalf("bit %d of %x", i, x)
				}
				if limbs.Zero(nil, single(n, i/64, 1<<(i%64))) != 0 {
					t.Fatalf("Zero of %d words, bit %d", n, i)
				}
			}
		}
	}
}

// P4.2
func TestZero(t *testing.T) {
	for _, x := range slices.Concat(numbers(), longNumbers()) {
		if got := limbs.Zero(nil, x); got != number(order(x, nil) == 0) {
			t.Errorf("Zero(%x): %d", x, got)
		}
	}
	for _, n := range []int{0, 1, 2, 300, 301} {
		if limbs.Zero(nil, make(api.Nat, n)) != 1 {
			t.Errorf("Zero of %d noughts", n)
		}
	}
}

// P4.3
func TestSelect(t *testing.T) {
	pairs(func(a, b api.Nat) {
		for _, bit := range bitWords {
			want := b
			if bit%2 == 1 {
				want = a
			}
			got := limbs.Select(nil, bit, a, b)
			check(t, "Select", got, 0, extended(want, max(len(a), len(b))), 0)
		}
	})
}

// lists are of no numbers, of one, of many, of like and unlike lengths.
func lists() [][]api.Nat {
	return [][]api.Nat{nil, {}, {nil}, {nil, {}}, {{7}}, {{0, 0}}, {{1}, {2}}, {nil, {3}}, {{3}, nil},
		{{1}, {2, 3}, {4}}, {{1, 2, 3}, {4}, nil, {5, 6}}, {nil, {top}, {top, top, top, top}}, numbers(), longNumbers()}
}

func longest(l []api.Nat) int {
	n := 0
	for _, x := range l {
		n = max(n, len(x))
	}
	return n
}

// P4.4
func TestPick(t *testing.T) {
	for _, l := range lists() {
		n := longest(l)
		for i, x := range l {
			check(t, "Pick", limbs.Pick(nil, l, uint64(i)), 0, extended(x, n), 0)
		}
	}
}

// P4.4: places that aren't there; those below 0 are the highest words.
func TestPickNone(t *testing.T) {
	for _, l := range lists() {
		many := uint64(len(l))
		for _, i := range []uint64{many, many + 1, 2*many + 64, 1 << 31, 1 << 32, 1<<32 + 1, 1 << 63, 1<<63 + 1, top - 1, top} {
			check(t, "Pick of none", limbs.Pick(nil, l, i), 0, make(api.Nat, longest(l)), 0)
		}
	}
}

// P4.4 and P4.7: each number is gone over, in the length of the longest, whichever is picked.
func TestPickSeen(t *testing.T) {
	for _, l := range lists() {
		want := spans(slices.Repeat([]int{longest(l)}, len(l))...)
		for _, i := range []uint64{0, 1, uint64(len(l)) - 1, uint64(len(l)), top} {
			tr := trace.New()
			limbs.Pick(tr, l, i)
			checkSeen(t, "Pick", tr, want)
		}
	}
}

// P4.5
func TestShiftExamples(t *testing.T) {
	for _, c := range []struct {
		a        api.Nat
		in       uint64
		left     api.Nat
		leftBit  uint64
		right    api.Nat
		rightBit uint64
	}{
		{nil, 0, nil, 0, nil, 0},
		{nil, 1, nil, 1, nil, 1},
		{api.Nat{}, 1, nil, 1, nil, 1},
		{nil, 2, nil, 0, nil, 0},
		{nil, top, nil, 1, nil, 1},
		{api.Nat{0}, 0, api.Nat{0}, 0, api.Nat{0}, 0},
		{api.Nat{0}, 1, api.Nat{1}, 0, api.Nat{1 << 63}, 0},
		{api.Nat{1}, 0, api.Nat{2}, 0, api.Nat{0}, 1},
		{api.Nat{1}, 1, api.Nat{3}, 0, api.Nat{1 << 63}, 1},
		{api.Nat{1 << 63}, 0, api.Nat{0}, 1, api.Nat{1 << 62}, 0},
		{api.Nat{1 << 63}, 1, api.Nat{1}, 1, api.Nat{3 << 62}, 0},
		{api.Nat{6}, top - 1, api.Nat{12}, 0, api.Nat{3}, 0},
		{api.Nat{6}, 3, api.Nat{13}, 0, api.Nat{1<<63 + 3}, 0},
		{api.Nat{top}, 1, api.Nat{top}, 1, api.Nat{top}, 1},
		{api.Nat{0, 1}, 0, api.Nat{0, 2}, 0, api.Nat{1 << 63, 0}, 0},
		{api.Nat{1 << 63, 0}, 1, api.Nat{1, 1}, 0, api.Nat{1 << 62, 1 << 63}, 0},
		{api.Nat{1, 0, 1 << 63}, 0, api.Nat{2, 0, 0}, 1, api.Nat{0, 0, 1 << 62}, 1},
	} {
		x, bit := limbs.Left(nil, c.a, c.in)
		check(t, "Left", x, bit, c.left, c.leftBit)
		x, bit = limbs.Right(nil, c.a, c.in)
		check(t, "Right", x, bit, c.right, c.rightBit)
	}
}

// P4.5: a row of bits with the bit in at one end, cut at the other.
func TestShiftAll(t *testing.T) {
	for _, a := range slices.Concat(numbers(), longNumbers()) {
		for _, in := range bitWords {
			row := append([]int{int(in % 2)}, bitsOf(a, len(a))...)
			last := len(row) - 1
			x, bit := limbs.Left(nil, a, in)
			check(t, "Left", x, bit, natOf(row[:last]), uint64(row[last]))
			row = append(bitsOf(a, len(a)), int(in%2))
			x, bit = limbs.Right(nil, a, in)
			check(t, "Right", x, bit, natOf(row[1:]), uint64(row[0]))
		}
	}
}

// P4.6
func TestAddIfSubIf(t *testing.T) {
	pairs(func(a, b api.Nat) {
		for _, bit := range bitWords {
			sum, carry := slowAdd(a, b)
			rest, borrow := slowSub(a, b)
			if bit%2 == 0 {
				sum, carry = extended(a, max(len(a), len(b))), 0
				rest, borrow = sum, 0
			}
			x, out := limbs.AddIf(nil, bit, a, b)
			check(t, "AddIf", x, out, sum, carry)
			x, out = limbs.SubIf(nil, bit, a, b)
			check(t, "SubIf", x, out, rest, borrow)
		}
	})
}

// call is one of the package's calls of two numbers; what it answers is told as numbers.
type call struct {
	name string
	do   func(tr *trace.Trace, bit uint64, a, b api.Nat) []api.Nat
}

func calls() []call {
	with := func(x api.Nat, bit uint64) []api.Nat { return []api.Nat{x, {bit}} }
	return []call{
		{"Add", func(tr *trace.Trace, bit uint64, a, b api.Nat) []api.Nat { return with(limbs.Add(tr, a, b)) }},
		{"Sub", func(tr *trace.Trace, bit uint64, a, b api.Nat) []api.Nat { return with(limbs.Sub(tr, a, b)) }},
		{"Less", func(tr *trace.Trace, bit uint64, a, b api.Nat) []api.Nat { return with(nil, limbs.Less(tr, a, b)) }},
		{"Equal", func(tr *trace.Trace, bit uint64, a, b api.Nat) []api.Nat { return with(nil, limbs.Equal(tr, a, b)) }},
		{"Select", func(tr *trace.Trace, bit uint64, a, b api.Nat) []api.Nat {
			return []api.Nat{limbs.Select(tr, bit, a, b)}
		}},
		{"AddIf", func(tr *trace.Trace, bit uint64, a, b api.Nat) []api.Nat { return with(limbs.AddIf(tr, bit, a, b)) }},
		{"SubIf", func(tr *trace.Trace, bit uint64, a, b api.Nat) []api.Nat { return with(limbs.SubIf(tr, bit, a, b)) }},
	}
}

// singleCalls are the calls of one number, a.
func singleCalls() []call {
	with := func(x api.Nat, bit uint64) []api.Nat { return []api.Nat{x, {bit}} }
	return []call{
		{"Zero", func(tr *trace.Trace, bit uint64, a, b api.Nat) []api.Nat { return with(nil, limbs.Zero(tr, a)) }},
		{"Left", func(tr *trace.Trace, bit uint64, a, b api.Nat) []api.Nat { return with(limbs.Left(tr, a, bit)) }},
		{"Right", func(tr *trace.Trace, bit uint64, a, b api.Nat) []api.Nat { return with(limbs.Right(tr, a, bit)) }},
	}
}

// P4.7: whatever the words and the bit are, a call writes down one event, the span of its length.
func TestSeen(t *testing.T) {
	pairs(func(a, b api.Nat) {
		for _, bit := range []uint64{0, 1} {
			for _, c := range calls() {
				tr := trace.New()
				c.do(tr, bit, a, b)
				checkSeen(t, c.name, tr, spans(max(len(a), len(b))))
			}
			for _, c := range singleCalls() {
				tr := trace.New()
				c.do(tr, bit, a, b)
				checkSeen(t, c.name, tr, spans(len(a)))
			}
		}
	})
}

// P4.7: events come behind those that are there, call by call.
func TestSeenInOrder(t *testing.T) {
	tr := trace.New()
	tr.Branch(true)
	a, b := api.Nat{1, 2, 3}, api.Nat{top}
	want := []api.Event{{Kind: api.EvBranch, A: 1}}
	for _, c := range calls() {
		c.do(tr, 1, a, b)
		want = append(want, spans(3)...)
	}
	for _, c := range singleCalls() {
		c.do(tr, 1, b, a)
		want = append(want, spans(1)...)
	}
	limbs.Pick(tr, []api.Nat{b, nil, a, b}, 1)
	limbs.Pick(tr, nil, 0)
	limbs.Pick(tr, []api.Nat{nil}, 0)
	limbs.Zero(tr, nil)
	checkSeen(t, "all calls", tr, append(want, spans(3, 3, 3, 3, 0, 0)...))
}

// P4.7: two calls of the same lengths write down the same, of Pick also of the same count.
func TestSeenAlike(t *testing.T) {
	for _, n := range []int{0, 1, 2, 40} {
		for _, m := range []int{0, 1, 3} {
			for _, c := range append(calls(), singleCalls()...) {
				first := trace.New()
				c.do(first, 0, make(api.Nat, n), make(api.Nat, m))
				for seed := range uint64(4) {
					for _, b := range []api.Nat{mixture(m, seed), full(m)} {
						tr := trace.New()
						c.do(tr, 1, mixture(n, seed+9), b)
						if !trace.Same(first, tr) {
							t.Errorf("%s of %d and %d words", c.name, n, m)
						}
					}
				}
			}
			first, other := trace.New(), trace.New()
			limbs.Pick(first, []api.Nat{make(api.Nat, n), make(api.Nat, m), nil}, 0)
			limbs.Pick(other, []api.Nat{mixture(n, 1), full(m), nil}, 7)
			if !trace.Same(first, other) {
				t.Errorf("Pick of %d and %d words", n, m)
			}
		}
	}
}

// P3 and P2.1: a trace that nobody made is let be, and the answers don't hang on it.
func TestTraceIsNothingToAnswers(t *testing.T) {
	var none *trace.Trace
	var zero trace.Trace
	pairs(func(a, b api.Nat) {
		for _, c := range append(calls(), singleCalls()...) {
			want := c.do(none, 1, a, b)
			for _, tr := range []*trace.Trace{trace.New(), &zero} {
				if got := c.do(tr, 1, a, b); !slices.EqualFunc(got, want, slices.Equal[api.Nat]) {
					t.Fatalf("%s hangs on its trace: %x, not %x", c.name, got, want)
				}
			}
		}
	})
	l := []api.Nat{{1}, {2, 3}}
	check(t, "Pick", limbs.Pick(trace.New(), l, 1), 0, limbs.Pick(none, l, 1), 0)
	if none.Many() != 0 || len(none.Events()) != 0 {
		t.Error("something is written down in no trace")
	}
}

// P3: a nil list and an empty one are the same.
func TestNilAndEmpty(t *testing.T) {
	for _, c := range append(calls(), singleCalls()...) {
		for _, other := range []api.Nat{nil, {5, top}} {
			for _, bit := range []uint64{0, 1} {
				if !slices.EqualFunc(c.do(nil, bit, nil, other), c.do(nil, bit, api.Nat{}, other), slices.Equal[api.Nat]) {
					t.Errorf("%s of no words first", c.name)
				}
				if !slices.EqualFunc(c.do(nil, bit, other, nil), c.do(nil, bit, other, api.Nat{}), slices.Equal[api.Nat]) {
					t.Errorf("%s of no words behind", c.name)
				}
			}
		}
	}
}

// spoil overwrites all of a number, what lies behind its length too.
func spoil(x api.Nat) {
	x = x[:cap(x)]
	for i := range x {
		x[i] = 77
	}
}

// behind is x in a list with more behind it, and that list.
func behind(x api.Nat) (api.Nat, api.Nat) {
	list := append(slices.Clone(x), 99, 98, 97, 96)
	return list[:len(x)], list
}

// P2: each number stands in a list with more behind it, of which nothing may be read, written or handed out.
func TestNothingChanged(t *testing.T) {
	for _, c := range append(calls(), singleCalls()...) {
		for _, bit := range []uint64{0, 1} {
			for _, p := range [][2]api.Nat{{{5, 0, top}, {1, 2, 3}}, {{5, 0, top}, {1}}, {{1}, {5, 0, top}}, {nil, {1, 2}}, {{1, 2}, nil}, {nil, nil}} {
				a, wholeA := behind(p[0])
				b, wholeB := behind(p[1])
				keptA, keptB := slices.Clone(wholeA), slices.Clone(wholeB)
				want := c.do(nil, bit, slices.Clone(p[0]), slices.Clone(p[1]))
				got := c.do(nil, bit, a, b)
				if !slices.EqualFunc(got, want, slices.Equal[api.Nat]) {
					t.Errorf("%s reads what lies behind: %x, not %x", c.name, got, want)
				}
				for _, x := range got {
					spoil(x)
				}
				if !slices.Equal(wholeA, keptA) || !slices.Equal(wholeB, keptB) {
					t.Errorf("%s changed %x, %x to %x, %x", c.name, keptA, keptB, wholeA, wholeB)
				}
			}
		}
	}
}

// P2: a number given twice is one operand and the other.
func TestOneNumberTwice(t *testing.T) {
	x := api.Nat{5, 0, top}
	for _, c := range append(calls(), singleCalls()...) {
		for _, bit := range []uint64{0, 1} {
			if !slices.EqualFunc(c.do(nil, bit, x, x), c.do(nil, bit, slices.Clone(x), slices.Clone(x)), slices.Equal[api.Nat]) {
				t.Errorf("%s of a number and itself", c.name)
			}
		}
	}
	check(t, "all calls", x, 0, api.Nat{5, 0, top}, 0)
}

// P2, of Pick.
func TestPickChangesNothing(t *testing.T) {
	for i := range uint64(6) {
		first, wholeFirst := behind(api.Nat{1, 2})
		second, wholeSecond := behind(api.Nat{3, 4, 5})
		list := []api.Nat{first, second, nil, {6}, {7, 8, 9, 10}}
		kept := slices.Clone(list)
		got := limbs.Pick(nil, list[:4], i)
		want := make(api.Nat, 3)
		if i < 4 {
			want = extended(kept[i], 3)
		}
		check(t, "Pick", got, 0, want, 0)
		spoil(got)
		if !slices.Equal(wholeFirst, api.Nat{1, 2, 99, 98, 97, 96}) || !slices.Equal(wholeSecond, api.Nat{3, 4, 5, 99, 98, 97, 96}) {
			t.Errorf("Pick of %d changed %x, %x", i, wholeFirst, wholeSecond)
		}
		if !slices.EqualFunc(list, kept, slices.Equal[api.Nat]) {
			t.Errorf("Pick of %d changed its list to %x", i, list)
		}
	}
}
