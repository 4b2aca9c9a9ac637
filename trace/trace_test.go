package trace_test

import (
	"math"
	"testing"

	"sconce/api"
	"sconce/trace"
)

const (
	none   uint64 = 0xCBF29CE484222325
	factor uint64 = 0x100000001B3
)

// numbers are the edges of a number that an event holds.
var numbers = []int{0, 1, 2, 3, 16, 255, 256, 1<<31 - 1, 1 << 31, math.MaxInt - 1, math.MaxInt, -1, -2, -256, math.MinInt + 1, math.MinInt}

// mixed is the sum behind an event, reckoned number by number from the words of P2.4.
func mixed(s uint64, e api.Event) uint64 {
	s ^= uint64(e.Kind)
	s *= factor
	s ^= uint64(e.A)
	s *= factor
	s ^= uint64(e.B)
	s *= factor
	return s
}

func sumOf(events []api.Event) uint64 {
	s := none
	for _, e := range events {
		s = mixed(s, e)
	}
	return s
}

func write(tr *trace.Trace, events ...api.Event) {
	for _, e := range events {
		switch e.Kind {
		case api.EvSpan:
			tr.Span(e.A)
		case api.EvBranch:
			tr.Branch(e.A == 1)
		case api.EvIndex:
			tr.Index(e.A, e.B)
		}
	}
}

func traceOf(events ...api.Event) *trace.Trace {
	tr := trace.New()
	write(tr, events...)
	return tr
}

// mixture has n events of all kinds, no two that stand side by side alike.
func mixture(n int) []api.Event {
	var list []api.Event
	for i := range n {
		switch i % 4 {
		case 0:
			list = append(list, api.Event{Kind: api.EvSpan, A: i})
		case 1:
			list = append(list, api.Event{Kind: api.EvBranch, A: i / 4 % 2})
		case 2:
			list = append(list, api.Event{Kind: api.EvIndex, A: i, B: 3 * i})
		case 3:
			list = append(list, api.Event{Kind: api.EvIndex, A: -i, B: -1})
		}
	}
	return list
}

func check(t *testing.T, tr *trace.Trace, want []api.Event) {
	t.Helper()
	if tr.Many() != len(want) {
		t.Errorf("Many: %d, not %d", tr.Many(), len(want))
	}
	if tr.Sum() != sumOf(want) {
		t.Errorf("Sum of %d events: %x, not %x", len(want), tr.Sum(), sumOf(want))
	}
	events, kept := tr.Events(), want[:min(len(want), 1000)]
	if len(events) != len(kept) {
		t.Fatalf("%d of %d events, not %d", len(events), len(want), len(kept))
	}
	for i, e := range events {
		if e != kept[i] {
			t.Fatalf("event %d: %v, not %v", i, e, kept[i])
		}
	}
}

// P2.1
func TestNew(t *testing.T) {
	a, b := trace.New(), trace.New()
	if a == nil || b == nil || a == b {
		t.Fatal("New answers a trace of its own each time")
	}
	check(t, a, nil)
	a.Span(4)
	check(t, a, []api.Event{{Kind: 1, A: 4}})
	check(t, b, nil)
	check(t, trace.New(), nil)
}

// P2.1
func TestNil(t *testing.T) {
	var tr *trace.Trace
	for range 2 {
		for _, a := range numbers {
			tr.Span(a)
			for _, b := range numbers {
				if tr.Index(a, b) != a {
					t.Errorf("Index(%d, %d) of nil", a, b)
				}
			}
		}
		if !tr.Branch(true) || tr.Branch(false) {
			t.Error("Branch of nil")
		}
		check(t, tr, nil)
	}
}

// P1: a trace that New did not make is one without events.
func TestZeroTrace(t *testing.T) {
	var tr trace.Trace
	check(t, &tr, nil)
	if !trace.Same(&tr, nil) || !trace.Same(trace.New(), &tr) {
		t.Error("a zero trace has no events")
	}
	want := mixture(1003)
	write(&tr, want...)
	check(t, &tr, want)
	if !trace.Same(&tr, traceOf(want...)) {
		t.Error("a zero trace writes down the same")
	}
}

// P2.2
func TestKinds(t *testing.T) {
	tr := trace.New()
	tr.Span(4)
	if !tr.Branch(true) || tr.Branch(false) {
		t.Error("Branch answers what it was given")
	}
	if tr.Index(3, 16) != 3 {
		t.Error("Index answers the place")
	}
	check(t, tr, []api.Event{{Kind: 1, A: 4}, {Kind: 2, A: 1}, {Kind: 2}, {Kind: 3, A: 3, B: 16}})
}

// P2.2, the example.
func TestIndexExample(t *testing.T) {
	tr := trace.New()
	if tr.Index(3, 16) != 3 {
		t.Error("Index(3, 16)")
	}
	if e := tr.Events(); len(e) != 1 || e[0] != (api.Event{Kind: 3, A: 3, B: 16}) {
		t.Error(e)
	}
}

// P2.2: numbers go down as they are, those that no place has too.
func TestNumbers(t *testing.T) {
	for _, a := range numbers {
		tr := trace.New()
		tr.Span(a)
		check(t, tr, []api.Event{{Kind: api.EvSpan, A: a}})
		for _, b := range numbers {
			tr := trace.New()
			if tr.Index(a, b) != a {
				t.Errorf("Index(%d, %d)", a, b)
			}
			check(t, tr, []api.Event{{Kind: api.EvIndex, A: a, B: b}})
		}
	}
}

// P2.3: the first MaxEvents are kept, all are counted, in the sum too.
func TestLimit(t *testing.T) {
	for _, n := range []int{0, 1, 2, 998, 999, 1000, 1001, 1002, 2000, 5003} {
		check(t, traceOf(mixture(n)...), mixture(n))
	}
}

// P2.3: the answers are right at every step, not at the end alone.
func TestSteps(t *testing.T) {
	tr := trace.New()
	all := mixture(1010)
	for i, e := range all {
		check(t, tr, all[:i])
		write(tr, e)
	}
	check(t, tr, all)
}

// P2: what Events answers is the asker's own.
func TestEventsAreCopies(t *testing.T) {
	for _, n := range []int{1, 3, 999, 1000, 1001} {
		want := mixture(n)
		tr := traceOf(want...)
		first, second := tr.Events(), tr.Events()
		for i := range first {
			first[i] = api.Event{Kind: 9, A: 9, B: 9}
		}
		_ = append(first[:0], api.Event{Kind: 8})
		_ = append(first, api.Event{Kind: 7})
		for i, e := range second {
			if e != want[i] {
				t.Fatalf("event %d of another answer is changed", i)
			}
		}
		check(t, tr, want)
		tr.Span(77)
		check(t, tr, append(want, api.Event{Kind: api.EvSpan, A: 77}))
		if len(second) != min(n, 1000) {
			t.Error("an answer grew")
		}
	}
}

// P2.4: the sums were reckoned beside the program, so that the test's own sum is not asked alone.
func TestSum(t *testing.T) {
	if trace.New().Sum() != 0xCBF29CE484222325 {
		t.Error("the sum of none")
	}
	for _, c := range []struct {
		events []api.Event
		want   uint64
	}{
		{[]api.Event{{Kind: 1}}, 0xd0a397186727310c},
		{[]api.Event{{Kind: 1, A: 4}}, 0xd095ff18671ba468},
		{[]api.Event{{Kind: 2, A: 1}}, 0xea9ca21875dc49e4},
		{[]api.Event{{Kind: 2}}, 0xeaa0081875df2d0d},
		{[]api.Event{{Kind: 3, A: 3, B: 16}}, 0xe1f3371870f46669},
		{[]api.Event{{Kind: 1, A: -1}}, 0x2f5902e798d5ebcb},
		{[]api.Event{{Kind: 3, A: -7, B: math.MinInt}}, 0x9dff40e78f002823},
		{[]api.Event{{Kind: 1, A: 4}, {Kind: 2, A: 1}, {Kind: 2}, {Kind: 3, A: 3, B: 16}}, 0x0eeeffb7872b5fd7},
	} {
		if got := traceOf(c.events...).Sum(); got != c.want {
			t.Errorf("%v: %#x, not %#x", c.events, got, c.want)
		}
	}
}

// P2.5
func TestSame(t *testing.T) {
	for _, n := range []int{0, 1, 4, 999, 1000, 1001, 2500} {
		a, b := traceOf(mixture(n)...), traceOf(mixture(n)...)
		if !trace.Same(a, b) || !trace.Same(b, a) || !trace.Same(a, a) {
			t.Errorf("%d like events", n)
		}
		check(t, a, mixture(n))
		b.Span(0)
		if trace.Same(a, b) || trace.Same(b, a) {
			t.Errorf("%d events and one more", n)
		}
	}
}

// P2.5: one event is another in its kind, in A or in B, within those that are kept or behind them.
func TestSameOneOther(t *testing.T) {
	const n = 1100
	a := traceOf(mixture(n)...)
	for _, i := range []int{0, 1, 2, 3, 500, 998, 999, 1000, 1001, 1002, n - 1} {
		for _, other := range others(mixture(n)[i]) {
			list := mixture(n)
			list[i] = other
			b := traceOf(list...)
			if trace.Same(a, b) || trace.Same(b, a) {
				t.Errorf("event %d: %v for %v", i, other, mixture(n)[i])
			}
		}
	}
}

func others(e api.Event) []api.Event {
	switch e.Kind {
	case api.EvSpan:
		return []api.Event{{Kind: api.EvSpan, A: e.A + 1}, {Kind: api.EvIndex, A: e.A}}
	case api.EvBranch:
		return []api.Event{{Kind: api.EvBranch, A: 1 - e.A}, {Kind: api.EvSpan, A: e.A}}
	}
	return []api.Event{{Kind: api.EvIndex, A: e.A + 1, B: e.B}, {Kind: api.EvIndex, A: e.A, B: e.B + 1}, {Kind: api.EvIndex, A: e.B, B: e.A}}
}

// P2.5: the same events in another order, within those that are kept, behind them, and across.
func TestSameOrder(t *testing.T) {
	const n = 1100
	a := traceOf(mixture(n)...)
	for _, swap := range [][2]int{{0, 1}, {0, n - 1}, {400, 600}, {998, 999}, {999, 1000}, {1000, 1001}, {n - 2, n - 1}} {
		list := mixture(n)
		list[swap[0]], list[swap[1]] = list[swap[1]], list[swap[0]]
		if trace.Same(a, traceOf(list...)) {
			t.Errorf("events %v have changed places", swap)
		}
	}
}

// P2.5
func TestSameNil(t *testing.T) {
	if !trace.Same(nil, nil) || !trace.Same(nil, trace.New()) || !trace.Same(trace.New(), nil) {
		t.Error("nil is as a trace without events")
	}
	for _, e := range []api.Event{{Kind: 1}, {Kind: 2}, {Kind: 2, A: 1}, {Kind: 3}} {
		if trace.Same(nil, traceOf(e)) || trace.Same(traceOf(e), nil) {
			t.Errorf("nil is not as a trace of %v", e)
		}
	}
}

// twin is another Index event that makes the same sum of s: what its A does to the sum its B takes back.
func twin(s uint64, e api.Event) api.Event {
	first := (s ^ uint64(e.Kind)) * factor
	a := e.A + 1
	b := (first^uint64(e.A))*factor ^ uint64(e.B) ^ (first^uint64(a))*factor
	return api.Event{Kind: e.Kind, A: a, B: int(b)}
}

// P2.5: events that are kept are asked one by one, whatever the sum is; of those behind them the sum alone speaks.
func TestSameSumOtherEvents(t *testing.T) {
	for _, n := range []int{1, 5, 999, 1000, 1001, 1500} {
		head := mixture(n - 1)
		e := api.Event{Kind: api.EvIndex, A: 3, B: 16}
		a, b := traceOf(head...), traceOf(head...)
		write(a, e)
		write(b, twin(sumOf(head), e))
		if a.Sum() != b.Sum() {
			t.Fatal("the sums were to be the same")
		}
		if got := trace.Same(a, b); got != (n > 1000) {
			t.Errorf("event %d: %v", n, got)
		}
	}
}

// P2.5: the kind tells an Index event from a Span event of the same sum that has its A, or its B.
func TestSameSumOtherKind(t *testing.T) {
	const a = 4
	s := none
	span, index := (s^api.EvSpan)*factor, (s^api.EvIndex)*factor
	b := (span^a)*factor ^ (index^a)*factor
	for _, other := range []api.Event{{Kind: api.EvIndex, A: a, B: int(b)}, {Kind: api.EvIndex, A: int(span ^ a ^ index)}} {
		x, y := traceOf(api.Event{Kind: api.EvSpan, A: a}), traceOf(other)
		if x.Sum() != y.Sum() {
			t.Fatal("the sums were to be the same")
		}
		if trace.Same(x, y) || trace.Same(y, x) {
			t.Errorf("a span is not %v", other)
		}
	}
}

// still is an Index event that leaves the sum s as it is.
func still(s uint64) api.Event {
	back := factor
	for range 6 {
		back *= 2 - factor*back
	}
	return api.Event{Kind: api.EvIndex, B: int(s*back ^ (s^api.EvIndex)*factor*factor)}
}

// P2.5: Many is asked, too, where Sum and Events are alike.
func TestSameSumOtherMany(t *testing.T) {
	list := mixture(1000)
	a, b := traceOf(list...), traceOf(list...)
	write(b, still(a.Sum()))
	if a.Sum() != b.Sum() || a.Many()+1 != b.Many() {
		t.Fatal("the sums were to be the same")
	}
	if trace.Same(a, b) || trace.Same(b, a) {
		t.Error("one of the traces has an event more")
	}
}
