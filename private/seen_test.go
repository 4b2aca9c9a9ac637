package private_test

import (
	"bytes"
	"math"
	"math/big"
	"slices"
	"testing"

	"sconce/api"
	"sconce/private"
	"sconce/script"
	"sconce/trace"
)

// kind is keys that are alike in how many words N, P and Q need: of halves of so many bits each, primes and others.
type kind struct {
	n, p, q int
	widths  [][2]int
}

func kinds() []kind {
	return []kind{
		{1, 1, 1, [][2]int{{16, 16}, {2, 32}, {32, 2}, {20, 40}, {31, 33}, {32, 32}}},
		{2, 1, 1, [][2]int{{33, 33}, {64, 64}, {50, 60}, {2, 64}}},
		{2, 1, 2, [][2]int{{20, 70}, {2, 90}, {60, 66}}},
		{2, 2, 1, [][2]int{{70, 20}, {90, 30}, {66, 60}}},
		{3, 2, 2, [][2]int{{65, 65}, {96, 96}, {70, 120}}},
		{4, 2, 2, [][2]int{{128, 128}, {97, 97}, {120, 100}}},
		{3, 1, 3, [][2]int{{20, 150}, {60, 129}}},
		{4, 1, 4, [][2]int{{2, 200}, {50, 194}}},
		{4, 3, 1, [][2]int{{190, 50}, {180, 60}}},
	}
}

// keysOf are keys of that kind with e: two of each widths, of primes and of others.
func keysOf(t *testing.T, of kind, e uint64) []api.Key {
	t.Helper()
	var list []api.Key
	for _, widths := range of.widths {
		for _, from := range []func(*big.Int, uint64) *big.Int{primeFrom, productFrom} {
			p, q := from(start(widths[0], 6), e), from(start(widths[1], 7), e)
			k, is := plainOf(natOf(p), natOf(q), e)
			if !is || words(p) != of.p || words(q) != of.q || len(k.N) != of.n {
				// Of some two there is no key, or it needs another number of words.
				continue
			}
			list = append(list, k)
		}
	}
	if len(list) < 2 {
		t.Fatalf("only %d keys of %v with %d", len(list), of, e)
	}
	return list
}

// seenFaults strike anywhere and nowhere, with numbers of all lengths.
func seenFaults(k api.Key) []api.Fault {
	return []api.Fault{
		{}, {At: 0, With: full(300)}, {At: 1}, {At: 1, With: api.Nat{7}}, {At: 1, With: full(200)}, {At: 2, With: k.Q}, {At: 2, With: full(5)},
		{At: 3, With: k.N}, {At: 3, With: full(1000)}, {At: 4}, {At: 4, With: api.Nat{1, 0, 0, 0, 0, 0, 0, 0, 1}}, {At: -1, With: api.Nat{1}}, {At: 5, With: full(4)}, {At: math.MaxInt}, {At: math.MinInt},
	}
}

// seenScripts take a draw of r, or many.
func seenScripts(next func() uint64, k api.Key) [][]byte {
	one := bytesOf(small(1), sizeOf(valueOf(k.N)))
	draws := drawsOf(next, k)
	return [][]byte{one, slices.Concat(draws[1], one), slices.Concat(slices.Concat(draws...), one, someBytes(next, 100)), enough(next, k)}
}

// seen is the trace of a call, which must end in an answer or in ErrFault.
func seen(t *testing.T, k api.Key, c, b []byte, f api.Fault) (*trace.Trace, api.Errno) {
	t.Helper()
	tr := trace.New()
	got, e := private.Apply(tr, k, c, script.New(b), f)
	if e != api.OK && e != api.ErrFault {
		t.Fatalf("Apply(%x, %x, %x, %v): error %d", k, c, b, f, e)
	}
	if other, is := private.Apply(nil, k, c, script.New(b), f); is != e || !bytes.Equal(other, got) {
		t.Fatalf("Apply(%x, %x, %x, %v) hangs on its trace: %x, error %d, and %x, error %d", k, c, b, f, got, e, other, is)
	}
	return tr, e
}

// P22.1, G2: keys that are alike in how many words N, P and Q need, and in E, write the same down, whatever else they are, and whatever text, script and fault there are.
func TestSeen(t *testing.T) {
	t.Parallel()
	for _, e := range []uint64{3, 65537, greatest} {
		for i, of := range kinds() {
			if e != 65537 && i%3 > 0 {
				continue
			}
			var first *trace.Trace
			faults, answers := 0, 0
			ask := func(k api.Key, c, b []byte, f api.Fault) {
				tr, wrong := seen(t, k, c, b, f)
				if first == nil {
					first = tr
				}
				if !trace.Same(tr, first) || tr.Many() == 0 {
					t.Errorf("Apply(%x, %x, %x, %v): %d events, not %d, or others", k, c, b, f, tr.Many(), first.Many())
				}
				if wrong == api.OK {
					answers++
				} else {
					faults++
				}
			}
			for _, k := range keysOf(t, of, e) {
				next := spread(k.N[0])
				texts, scripts := textsOf(next, k), seenScripts(next, k)
				for i, c := range texts {
					ask(k, c, scripts[i%len(scripts)], api.Fault{})
				}
				for i, f := range seenFaults(k) {
					ask(k, texts[11], scripts[i%len(scripts)], f)
				}
			}
			if faults < 5 || answers < 5 {
				t.Errorf("%v with %d: only %d faults and %d answers", of, e, faults, answers)
			}
		}
	}
}

// TestSeenLong asks moduli of more words, as keys have them.
func TestSeenLong(t *testing.T) {
	t.Parallel()
	next := spread(512)
	first, _ := seen(t, longKeys(t)[0].k, bytesOf(small(1), 64), enough(next, longKeys(t)[0].k), api.Fault{})
	other := ofWidth(t, "511 bits", 511, 255, 65537).k
	for _, b := range seenScripts(next, other) {
		for _, f := range seenFaults(other)[:6] {
			if tr, _ := seen(t, other, bytesOf(someBelow(next, valueOf(other.N)), 64), b, f); !trace.Same(tr, first) {
				t.Errorf("Apply of another key, %x, %v: %d events, not %d, or others", b, f, tr.Many(), first.Many())
			}
		}
	}
}

// P22.1: all errors but ErrFault write the same down, of whatever kind they are and wherever they come.
func TestSeenErrors(t *testing.T) {
	for _, x := range []sample{smallKeys(t)[0], smallKeys(t)[20], unlikeKeys(t)[8]} {
		n := valueOf(x.k.N)
		size := sizeOf(n)
		draws := slices.Concat(drawsOf(spread(1), x.k)...)
		wrong := copied(x.k)
		wrong.QI[0] ^= 4
		var traces []*trace.Trace
		for _, c := range []struct {
			k    api.Key
			c, b []byte
			want api.Errno
		}{
			{wrong, bytesOf(small(2), size), bytesOf(small(2), size), api.ErrKey},
			{wrong, nil, nil, api.ErrKey},
			{x.k, bytesOf(n, size), bytesOf(small(2), size), api.ErrRange},
			{x.k, nil, bytesOf(small(2), size), api.ErrRange},
			{x.k, bytesOf(small(2), size), nil, api.ErrSpent},
			{x.k, bytesOf(small(3), size), draws, api.ErrSpent},
			{x.k, bytesOf(small(0), size), draws[:size+1], api.ErrSpent},
		} {
			tr := trace.New()
			if _, e := private.Apply(tr, c.k, c.c, script.New(c.b), api.Fault{At: 1}); e != c.want {
				t.Errorf("Apply(%x, %x, %x): error %d, not %d", c.k, c.c, c.b, e, c.want)
			}
			traces = append(traces, tr)
		}
		for _, tr := range traces {
			if !trace.Same(tr, traces[0]) {
				t.Errorf("errors of %x write down %d events, and %d, or others", x.k, tr.Many(), traces[0].Many())
			}
		}
	}
}

// P3, P2.1: a trace that nobody made, and one that has events already, are like others; a call writes the same behind whatever stands there.
func TestTraces(t *testing.T) {
	x := smallKeys(t)[2]
	n := valueOf(x.k.N)
	c, b := bytesOf(small(99), sizeOf(n)), enough(spread(1), x.k)
	want, _ := private.Apply(nil, x.k, c, script.New(b), api.Fault{})
	var zero trace.Trace
	used, once := trace.New(), trace.New()
	for i := range 2000 {
		used.Span(i)
	}
	for _, tr := range []*trace.Trace{&zero, used, once} {
		before := tr.Many()
		got, e := private.Apply(tr, x.k, c, script.New(b), api.Fault{})
		if e != api.OK || !bytes.Equal(got, want) {
			t.Errorf("Apply with another trace: %x, error %d, not %x", got, e, want)
		}
		if many := tr.Many() - before; many != zero.Many() {
			t.Errorf("%d events behind %d others, not %d", many, before, zero.Many())
		}
	}
	if !trace.Same(&zero, once) {
		t.Error("a trace that nobody made holds something else")
	}
}
