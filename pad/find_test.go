package pad_test

import (
	"bytes"
	"math"
	"slices"
	"testing"

	"sconce/api"
	"sconce/pad"
	"sconce/trace"
)

// askEqual asks what Equal tells of both orders, with each kind of trace, of lists with others beside them.
func askEqual(t *testing.T, a, b []byte, want uint64) {
	t.Helper()
	for _, beside := range []byte{0, 255} {
		allA, pieceA := room(a, beside)
		allB, pieceB := room(b, beside)
		beforeA, beforeB := slices.Clone(allA), slices.Clone(allB)
		for _, tr := range traces() {
			if got := pad.Equal(tr, pieceA, pieceB); got != want {
				t.Fatalf("Equal(%d, %d): %d", a, b, got)
			}
			if got := pad.Equal(tr, pieceB, pieceA); got != want {
				t.Fatalf("Equal(%d, %d): %d", b, a, got)
			}
		}
		askUnchanged(t, allA, beforeA)
		askUnchanged(t, allB, beforeB)
	}
}

// P23.3 of bytes that are alike, that part in one bit, and that are unlike in length.
func TestEqual(t *testing.T) {
	askEqual(t, nil, nil, 1)
	askEqual(t, nil, []byte{}, 1)
	askEqual(t, []byte{}, []byte{}, 1)
	for _, n := range []int{1, 2, 3, 7, 8, 9, 16, 32, 100, 255, 256, 257, 1024, 1025, 70000} {
		for _, a := range [][]byte{mixture(n, 1), make([]byte, n), bytes.Repeat([]byte{255}, n)} {
			askEqual(t, a, slices.Clone(a), 1)
			askEqual(t, a, nil, 0)
			askEqual(t, a, a[:n-1], 0)
			askEqual(t, a, a[1:], 0)
			askEqual(t, a, append(slices.Clone(a), 0), 0)
			askEqual(t, a, append(slices.Clone(a), 1), 0)
			askEqual(t, a, append([]byte{0}, a...), 0)
			for _, place := range []int{0, n / 2, n - 1} {
				for bit := range 8 {
					askEqual(t, a, replaced(a, place, a[place]^1<<bit), 0)
				}
			}
		}
	}
}

// P23.3 of a list and itself, and of pieces of one list.
func TestEqualOfPieces(t *testing.T) {
	b := []byte{1, 2, 1, 2, 1, 2}
	for from := range b {
		for to := from; to <= len(b); to++ {
			askEqual(t, b[from:to], b[:to-from], plainEqual(b[from:to], b[:to-from]))
		}
	}
	if got := pad.Equal(nil, b, b); got != 1 {
		t.Error(got)
	}
}

// P23.3 of lists that are unlike in more than one place, so that what parts at one is not made up for by another.
func TestEqualOfMoreBits(t *testing.T) {
	for _, mask := range []byte{1, 2, 3, 128, 129, 170, 255} {
		a := mixture(20, 3)
		for i := range a {
			for j := range i {
				b := replaced(a, i, a[i]^mask)
				b[j] ^= mask
				askEqual(t, a, b, 0)
			}
		}
	}
}

// P23.3 of all pairs of bytes, and of lengths that part in one bit of many.
func TestEqualOfBytes(t *testing.T) {
	for a := range 256 {
		for b := range 256 {
			x, y := []byte{byte(a)}, []byte{byte(b)}
			if got := pad.Equal(nil, x, y); got != plainEqual(x, y) {
				t.Errorf("Equal(%d, %d): %d", a, b, got)
			}
		}
	}
	for a := range 17 {
		for bit := range 17 {
			x, y := make([]byte, 1<<a), make([]byte, 1<<a^1<<bit)
			if got := pad.Equal(nil, x, y); got != 0 {
				t.Errorf("Equal of %d and %d noughts: %d", len(x), len(y), got)
			}
		}
	}
}

// froms are places to look from: each of b's, those beside them, and those at the edges of numbers.
func froms(b []byte) []int {
	list := []int{math.MinInt, math.MinInt + 1, math.MinInt32, -256, -2, -1}
	for from := range len(b) + 3 {
		list = append(list, from)
	}
	return append(list, 255, 256, 1<<31, 1<<32, 1<<32+1, math.MaxInt-1, math.MaxInt)
}

// askFind asks what Find tells against the chapter's words, with each kind of trace, of a list with others beside it.
func askFind(t *testing.T, b []byte, c byte, from int) {
	t.Helper()
	place, is := plainFind(b, c, from)
	for _, beside := range []byte{c, c + 1} {
		all, piece := room(b, beside)
		before := slices.Clone(all)
		for _, tr := range traces() {
			if got, found := pad.Find(tr, piece, c, from); got != place || found != is {
				t.Fatalf("Find(%d, %d, %d): %d, %d, not %d, %d", b, c, from, got, found, place, is)
			}
		}
		askUnchanged(t, all, before)
	}
}

// P23.4 of no bytes, of one at each place, of many and of all.
func TestFind(t *testing.T) {
	lists := [][]byte{nil, {}, {5}, {6}, {5, 5}, {5, 0, 5}, {0, 5, 0}, {1, 2, 3, 4, 6, 7}, mixture(40, 1), mixture(64, 2), make([]byte, 30), bytes.Repeat([]byte{255}, 30)}
	for _, n := range []int{1, 2, 3, 8, 33} {
		for place := range n {
			lists = append(lists, replaced(make([]byte, n), place, 5), replaced(bytes.Repeat([]byte{255}, n), place, 0), replaced(bytes.Repeat([]byte{5}, n), place, 4))
		}
	}
	for _, b := range lists {
		for _, c := range []byte{0, 1, 4, 5, 128, 255} {
			for _, from := range froms(b) {
				askFind(t, b, c, from)
			}
		}
	}
}

// P23.4 of each byte there is.
func TestFindBytes(t *testing.T) {
	b := make([]byte, 256)
	for i := range b {
		b[i] = byte(255 - i)
	}
	for c := range 256 {
		for _, from := range []int{-1, 0, 255 - c - 1, 255 - c, 255 - c + 1} {
			askFind(t, b, byte(c), from)
			askFind(t, slices.Concat(b, b), byte(c), from)
		}
	}
}

// P23.4 of long lists: a first place that is greater than a byte.
func TestFindFar(t *testing.T) {
	for _, n := range []int{257, 1024, 1025, 70000} {
		for _, place := range []int{0, 1, 255, 256, n / 2, n - 2, n - 1} {
			b := replaced(make([]byte, n), place, 9)
			for _, from := range []int{math.MinInt, 0, 1, place - 1, place, place + 1, n - 1, n, n + 1, math.MaxInt} {
				askFind(t, b, 9, from)
			}
		}
	}
}

// P23.4: going from place to place tells all of them.
func TestFindOn(t *testing.T) {
	b := mixture(500, 8)
	many := 0
	for from := 0; ; {
		place, is := pad.Find(nil, b, 0, from)
		if is == 0 {
			break
		}
		many, from = many+1, place+1
	}
	if many != bytes.Count(b, []byte{0}) || many == 0 {
		t.Error(many)
	}
}

// P23.3, P23.4: what is written down is one event, behind what the trace held.
func TestSpans(t *testing.T) {
	for _, n := range lengths() {
		for _, more := range []int{0, 1, 5, 2000} {
			for _, start := range []uint64{1, 2} {
				askSpan(t, n+more, func(tr *trace.Trace) { pad.Equal(tr, mixture(n, start), mixture(n+more, start)) })
				askSpan(t, n+more, func(tr *trace.Trace) { pad.Equal(tr, mixture(n+more, start), make([]byte, n)) })
			}
			askSpan(t, n+more, func(tr *trace.Trace) { pad.Equal(tr, nil, make([]byte, n+more)) })
		}
		for _, b := range [][]byte{mixture(n, 1), make([]byte, n), bytes.Repeat([]byte{7}, n)} {
			for _, from := range []int{math.MinInt, -1, 0, 1, n / 2, n - 1, n, n + 1, math.MaxInt} {
				askSpan(t, n, func(tr *trace.Trace) { pad.Find(tr, b, 7, from) })
			}
		}
	}
}

// askSpan asks that a call writes the Span of n down, alone.
func askSpan(t *testing.T, n int, call func(tr *trace.Trace)) {
	t.Helper()
	got, want := trace.New(), trace.New()
	for range 2 {
		call(got)
		want.Span(n)
		if !trace.Same(got, want) || !slices.Equal(got.Events(), want.Events()) {
			t.Fatalf("%v, not the Span of %d", got.Events(), n)
		}
	}
	if e := got.Events()[0]; e != (api.Event{Kind: api.EvSpan, A: n}) {
		t.Fatal(e)
	}
}
