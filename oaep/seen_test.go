package oaep_test

import (
	"bytes"
	"slices"
	"testing"

	"sconce/api"
	"sconce/oaep"
	"sconce/trace"
)

// kinds are bytes of one length that are taken with the label "l" and refused for all reasons that there are.
func kinds(h, n int) [][]byte {
	list := [][]byte{make([]byte, n), bytes.Repeat([]byte{255}, n), filled(n, 1), mixture(n, 2), mixture(n, 3)}
	size := n - 2*plainSize(h) - 1
	if size < 1 {
		return list
	}
	none := make([]byte, size)
	rests := [][]byte{none, filled(size, 5), mixture(size, 6), bytes.Repeat([]byte{1}, size), bytes.Repeat([]byte{2}, size)}
	for place := 0; place < size; place += 1 + size/20 {
		one := replaced(none, place, 1)
		rests = append(rests, one, replaced(one, 0, 2), replaced(one, size-1, 1), append(one[:place+1:place+1], filled(size-place-1, 7)...))
	}
	for _, rest := range rests {
		right := padded(h, []byte("l"), rest)
		list = append(list, right, padded(h, []byte("m"), rest), replaced(right, 0, 1), replaced(right, 0, 255), replaced(right, n-1, right[n-1]^1), replaced(right, 1, right[1]^1))
	}
	return list
}

// seen is what a call writes down.
func seen(call func(tr *trace.Trace)) *trace.Trace {
	tr := trace.New()
	call(tr)
	return tr
}

// P24.2, G2: what is written down hangs on em's length and h alone, whether it is taken or refused, for whatever reason, whatever the label is, and wherever the byte 1 stands.
func TestDecodeShowsNothing(t *testing.T) {
	t.Parallel()
	for _, h := range hashes {
		for _, n := range lengths(h) {
			askAlike(t, h, n)
		}
		for n := 2 * plainSize(h); n < 2*plainSize(h)+20; n++ {
			askAlike(t, h, n)
		}
	}
}

func askAlike(t *testing.T, h, n int) {
	t.Helper()
	want := seen(func(tr *trace.Trace) { oaep.Decode(tr, h, nil, make([]byte, n)) })
	taken, refused := 0, 0
	for _, em := range kinds(h, n) {
		for _, label := range [][]byte{nil, []byte("l"), filled(200, 1)} {
			var e api.Errno
			got := seen(func(tr *trace.Trace) { _, e = oaep.Decode(tr, h, label, em) })
			if !trace.Same(got, want) {
				t.Fatalf("Decode(%d, %d, %d) writes %v, noughts write %v", h, label, em, got.Events(), want.Events())
			}
			if e == api.OK {
				taken++
			} else {
				refused++
			}
		}
	}
	if refused == 0 || (taken == 0) != (n < 2*plainSize(h)+2 || n > mostBytes) {
		t.Errorf("of %d bytes %d were taken, %d refused", n, taken, refused)
	}
}

// P24.2: each going over bytes is written down (both masks, the first byte, the label's hash, what ends the noughts, the noughts); a trace would be alike also if nothing was.
func TestDecodeWritesDown(t *testing.T) {
	for _, h := range hashes {
		size := plainSize(h)
		for _, rest := range []int{1, 2, 3, 100, 800} {
			em := padded(h, nil, append([]byte{1}, filled(rest-1, 1)...))
			got := seen(func(tr *trace.Trace) { oaep.Decode(tr, h, nil, em) })
			var spans []int
			for _, e := range got.Events() {
				spans = append(spans, e.A)
			}
			if want := []int{size, size + rest, 1, size, rest, rest}; !slices.Equal(spans, want) {
				t.Errorf("hash %d, %d bytes behind the label's: spans of %d, not %d", h, rest, spans, want)
			}
		}
	}
}

// P3: what a trace holds already is kept, and Decode writes the same behind it, spans alone.
func TestDecodeWritesBehind(t *testing.T) {
	for _, em := range [][]byte{nil, make([]byte, 66), padded(1, nil, []byte{1}), padded(1, nil, append([]byte{1}, filled(900, 1)...))} {
		got, want := trace.New(), trace.New()
		got.Index(3, 16)
		want.Index(3, 16)
		oaep.Decode(got, 1, nil, em)
		for _, e := range seen(func(tr *trace.Trace) { oaep.Decode(tr, 1, nil, em) }).Events() {
			if e.Kind != api.EvSpan {
				t.Errorf("%v is written down", e)
			}
			want.Span(e.A)
		}
		if !trace.Same(got, want) {
			t.Errorf("%v, not %v", got.Events(), want.Events())
		}
	}
}
