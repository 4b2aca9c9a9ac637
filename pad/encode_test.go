package pad_test

import (
	"bytes"
	"slices"
	"testing"

	"sconce/api"
	"sconce/pad"
	"sconce/script"
)

// askEncode asks what Encode tells of a script's bytes, and what is left of them, against the chapter's words; twice, of lists with others beside them, of which nothing is to be read or changed, also by whoever changes the answer.
func askEncode(t *testing.T, m []byte, k int, laid []byte) {
	t.Helper()
	want, wrong, left := plainEncode(m, k, laid)
	for _, beside := range []byte{0, 255} {
		all, piece := room(m, beside)
		before := slices.Clone(all)
		for range 2 {
			s := script.New(laid)
			got, e := pad.Encode(piece, k, s)
			if e != wrong || !bytes.Equal(got, want) || s.Left() != left {
				t.Fatalf("Encode(%d, %d) of script %d: %d, error %d, %d left, not %d, error %d, %d left", m, k, laid, got, e, s.Left(), want, wrong, left)
			}
			spoil(got)
			askUnchanged(t, all, before)
		}
	}
}

// lengthsFor are how many bytes a message may have for k, at the edges and between.
func lengthsFor(k int) []int {
	list := []int{0}
	for _, n := range []int{1, 2, (k - leastRoom) / 2, k - leastRoom - 2, k - leastRoom - 1, k - leastRoom} {
		if n > list[len(list)-1] {
			list = append(list, n)
		}
	}
	return list
}

// P23.1 of all lengths of a message that there is room for, with more bytes in the script than it takes, some of them noughts.
func TestEncode(t *testing.T) {
	for _, k := range []int{11, 12, 13, 14, 19, 20, 32, 64, 100, 128, 255, 256, 257, 512, 1000, 1022, 1023, 1024} {
		laid := mixture(4*mostBytes, uint64(k))
		for _, n := range lengthsFor(k) {
			askEncode(t, mixture(n, uint64(n)), k, laid)
			askEncode(t, make([]byte, n), k, laid)
			askEncode(t, bytes.Repeat([]byte{255}, n), k, laid)
		}
	}
}

// P23.1 of each k and each length of a message up to sixty bytes, right and wrong ones.
func TestEncodeSmall(t *testing.T) {
	laid := mixture(200, 7)
	for k := range 60 {
		for n := range 62 {
			askEncode(t, filled(n, uint64(n)), k, laid)
		}
	}
}

// P23.1: a script that holds just what is needed, a byte more, a byte less, nothing, noughts alone, and noughts that are passed over.
func TestEncodeScripts(t *testing.T) {
	for _, k := range []int{11, 12, 20, 100, 1023, 1024} {
		for _, n := range lengthsFor(k) {
			m, need := mixture(n, 3), k-3-n
			laid := filled(need, uint64(k))
			for _, b := range [][]byte{
				nil, {}, {0}, {1}, laid, laid[:need-1], laid[:need/2], append(slices.Clone(laid), 0), append(slices.Clone(laid), 9), append([]byte{0}, laid...),
				replaced(laid, 0, 0), replaced(laid, need/2, 0), replaced(laid, need-1, 0), make([]byte, need), make([]byte, 5*mostBytes),
				sparse(laid, 1), sparse(laid, 7), sparse(laid[:need-1], 7), append(make([]byte, 3000), laid...), append(slices.Clone(laid), make([]byte, 3000)...),
				slices.Concat(laid, []byte{0, 0, 5}), bytes.Repeat([]byte{255}, need), bytes.Repeat([]byte{255, 0}, need),
			} {
				askEncode(t, m, k, b)
			}
		}
	}
}

// P23.1 against script.Filled by hand: call behind call on one script, till it is spent, its place is what Filled leaves.
func TestEncodeByFilled(t *testing.T) {
	for start := range uint64(20) {
		next := spread(start)
		laid := mixture(3000, start)
		a, b := script.New(laid), script.New(laid)
		for a.Left() > 0 {
			k := leastRoom + int(next()%200)
			m := mixture(int(next()%uint64(k-leastRoom+1)), next())
			fill, wrong := b.Filled(k - 3 - len(m))
			got, e := pad.Encode(m, k, a)
			var want []byte
			if wrong == api.OK {
				want = slices.Concat([]byte{0, 2}, fill, []byte{0}, m)
			}
			if e != wrong || !bytes.Equal(got, want) || a.Left() != b.Left() {
				t.Fatalf("Encode(%d, %d): %d, error %d, %d left, not %d, error %d, %d left", m, k, got, e, a.Left(), want, wrong, b.Left())
			}
		}
		if got, e := pad.Encode(nil, 11, a); e != api.ErrSpent || len(got) != 0 {
			t.Errorf("of a spent script: %d, error %d", got, e)
		}
	}
}

// P23.1 of a script that was begun: a place is kept, whatever is behind it.
func TestEncodeGoesOn(t *testing.T) {
	s := script.New([]byte{9, 9, 0, 1, 2, 3, 4, 5, 6, 7, 8, 0, 9})
	if _, e := s.Read(2); e != api.OK {
		t.Fatal(e)
	}
	got, e := pad.Encode([]byte{0, 7}, 13, s)
	if want := []byte{0, 2, 1, 2, 3, 4, 5, 6, 7, 8, 0, 0, 7}; e != api.OK || !bytes.Equal(got, want) || s.Left() != 2 {
		t.Errorf("%d, error %d, %d left", got, e, s.Left())
	}
	if rest, e := s.Read(2); e != api.OK || !bytes.Equal(rest, []byte{0, 9}) {
		t.Errorf("%d, error %d are left", rest, e)
	}
}

// P23.1 of scripts that no call has made: they count as ones without bytes.
func TestEncodeOfNobodysScripts(t *testing.T) {
	for _, s := range []*script.Script{nil, {}} {
		for _, c := range []struct {
			m    []byte
			k    int
			want api.Errno
		}{
			{nil, -1, api.ErrRange}, {nil, 1025, api.ErrRange}, {nil, 0, api.ErrMessage}, {nil, 10, api.ErrMessage}, {[]byte{1}, 11, api.ErrMessage},
			{nil, 11, api.ErrSpent}, {[]byte{}, 11, api.ErrSpent}, {[]byte{1}, 12, api.ErrSpent}, {make([]byte, 1013), 1024, api.ErrSpent}, {nil, 1024, api.ErrSpent},
		} {
			if got, e := pad.Encode(c.m, c.k, s); e != c.want || len(got) != 0 || s.Left() != 0 {
				t.Errorf("Encode(%d, %d): %d, error %d, not %d", c.m, c.k, got, e, c.want)
			}
		}
	}
}

// P23.1, P4: ErrRange ahead of ErrMessage, ErrMessage ahead of ErrSpent, and of both no byte of the script is read.
func TestEncodeErrors(t *testing.T) {
	laid := [][]byte{nil, {}, {0}, filled(7, 1), filled(8, 1), make([]byte, 8), filled(2000, 1)}
	messages := [][]byte{nil, {}, {0}, {1, 2}, filled(1013, 1), filled(1014, 1), filled(1024, 1), filled(3000, 1)}
	for _, b := range laid {
		for _, m := range messages {
			for _, k := range slices.Concat(belowNought, aboveMost) {
				askRefused(t, m, k, b, api.ErrRange)
			}
			for k := range leastRoom {
				askRefused(t, m, k, b, api.ErrMessage)
			}
		}
		for _, k := range []int{11, 12, 13, 64, 512, 1023, 1024} {
			for _, more := range []int{1, 2, 3, 8, 11, 12, k, 5000} {
				askRefused(t, mixture(k-leastRoom+more, 5), k, b, api.ErrMessage)
			}
		}
	}
}

// askRefused asks that Encode answers an error, nothing beside it, and leaves the script where it was.
func askRefused(t *testing.T, m []byte, k int, laid []byte, want api.Errno) {
	t.Helper()
	s := script.New(laid)
	if got, e := pad.Encode(m, k, s); e != want || len(got) != 0 || s.Left() != len(laid) {
		t.Errorf("Encode of %d bytes, %d: %d, error %d, not %d; %d of %d left", len(m), k, got, e, want, s.Left(), len(laid))
	}
}

// P2: two answers share nothing with each other, with the message, or with the script.
func TestEncodeAnswersAreNew(t *testing.T) {
	laid := filled(100, 1)
	given := slices.Clone(laid)
	s := script.New(given)
	m := filled(10, 2)
	first, _ := pad.Encode(m, 30, s)
	kept := slices.Clone(first)
	second, _ := pad.Encode(m, 30, s)
	if !bytes.Equal(first, kept) {
		t.Error("the second answer is over the first")
	}
	spoil(first)
	spoil(second)
	spoil(m)
	askUnchanged(t, given, laid)
	third, e := pad.Encode(filled(10, 2), 30, s)
	if want := slices.Concat([]byte{0, 2}, laid[34:51], []byte{0}, filled(10, 2)); e != api.OK || !bytes.Equal(third, want) {
		t.Errorf("%d, error %d, not %d", third, e, want)
	}
}
