package pad_test

import (
	"bytes"
	"slices"
	"testing"

	"sconce/api"
	"sconce/pad"
	"sconce/trace"
)

// kinds are bytes of one length that are taken and refused for all reasons that there are.
func kinds(n int) [][]byte {
	list := [][]byte{make([]byte, n), bytes.Repeat([]byte{255}, n), filled(n, 1), mixture(n, 2), mixture(n, 3)}
	for _, b := range slices.Clone(list) {
		headed := slices.Clone(b)
		copy(headed, []byte{0, 2})
		list = append(list, headed)
	}
	if n < 3 {
		return list
	}
	none := filled(n, 4)
	none[0], none[1] = 0, 2
	for place := 2; place < n; place += 1 + n/100 {
		one := replaced(none, place, 0)
		list = append(list, one, replaced(one, 0, 1), replaced(one, 1, 3), replaced(one, n-1, 0))
	}
	return append(list, none, replaced(none, n-1, 0), replaced(none, 2, 0))
}

// seen is what a call writes down.
func seen(call func(tr *trace.Trace)) *trace.Trace {
	tr := trace.New()
	call(tr)
	return tr
}

// P23.2, G2: what is written down hangs on em's length alone, whether it is taken or refused, for whatever reason, and wherever its byte 0 stands.
func TestDecodeShowsNothing(t *testing.T) {
	for n := range 70 {
		askAlike(t, n)
	}
	for _, n := range lengths() {
		askAlike(t, n)
	}
}

func askAlike(t *testing.T, n int) {
	t.Helper()
	want := seen(func(tr *trace.Trace) { pad.Decode(tr, make([]byte, n)) })
	taken, refused := 0, 0
	for _, em := range kinds(n) {
		var e api.Errno
		got := seen(func(tr *trace.Trace) { _, e = pad.Decode(tr, em) })
		if !trace.Same(got, want) {
			t.Fatalf("Decode(%d) writes %v, noughts write %v", em, got.Events(), want.Events())
		}
		if e == api.OK {
			taken++
		} else {
			refused++
		}
	}
	if refused == 0 || (taken == 0) != (n < leastRoom || n > mostBytes) {
		t.Errorf("of %d bytes %d were taken, %d refused", n, taken, refused)
	}
}

// P23.2: that all bytes are gone over is written down; a trace would be alike also if nothing was.
func TestDecodeWritesDown(t *testing.T) {
	for _, n := range []int{11, 12, 100, 1023, 1024} {
		got := seen(func(tr *trace.Trace) { pad.Decode(tr, padded(8, filled(n-leastRoom, 1))) })
		if !slices.Contains(got.Events(), api.Event{Kind: api.EvSpan, A: n}) {
			t.Errorf("of %d bytes: %v", n, got.Events())
		}
	}
}

// P3: what a trace holds already is kept, and Decode writes the same behind it.
func TestDecodeWritesBehind(t *testing.T) {
	for _, em := range [][]byte{nil, make([]byte, 12), padded(8, []byte{7}), padded(1021, nil)} {
		got, want := trace.New(), trace.New()
		got.Index(3, 16)
		want.Index(3, 16)
		pad.Decode(got, em)
		for _, e := range seen(func(tr *trace.Trace) { pad.Decode(tr, em) }).Events() {
			askKind(t, e)
			want.Span(e.A)
		}
		if !trace.Same(got, want) {
			t.Errorf("%v, not %v", got.Events(), want.Events())
		}
	}
}

// askKind asks that an event is a Span: Decode comes to no place and takes no branch that it needs to tell.
func askKind(t *testing.T, e api.Event) {
	t.Helper()
	if e.Kind != api.EvSpan {
		t.Errorf("%v is written down", e)
	}
}
