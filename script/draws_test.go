package script

import (
	"slices"
	"testing"

	"sconce/api"
)

// P15.4: draws are counted from 1 on, cut to their bits, and end with the bytes; what is too few for one is gone.
func TestDraws(t *testing.T) {
	s := New([]byte{0xff, 1, 0xf0, 2, 0x5a, 3, 4})
	want := []api.Nat{{0xf01, 0}, {2, 0}, {0xa03, 0}}
	count := 0
	for many, x := range s.draws(12, 2) {
		if many != count+1 || count == len(want) || !slices.Equal(x, want[count]) {
			t.Fatalf("draw %d: %x, the count being %d", count, x, many)
		}
		count++
		if left := 7 - 2*count; s.Left() != left {
			t.Errorf("%d bytes are left, not %d", s.Left(), left)
		}
	}
	if count != len(want) || s.Left() != 0 {
		t.Errorf("%d draws, %d bytes are left", count, s.Left())
	}
}

// Behind a loop that was left draws go on where the script stands, and not a byte is read ahead.
func TestDrawsGoOn(t *testing.T) {
	s := New([]byte{1, 2, 3, 4, 5})
	told := s.draws(8, 1)
	next := func() uint64 {
		for many, x := range told {
			if many != 1 {
				t.Errorf("the first draw has the count %d", many)
			}
			return x[0]
		}
		return 0
	}
	for want := uint64(1); want <= 5; want++ {
		if got := next(); got != want || s.Left() != int(5-want) {
			t.Errorf("%d, not %d; %d bytes are left", got, want, s.Left())
		}
	}
	if got := next(); got != 0 {
		t.Errorf("%d behind the last byte", got)
	}
}

// P15.1: a nil script tells no draw.
func TestNoDraws(t *testing.T) {
	var none *Script
	for many, x := range none.draws(8, 1) {
		t.Fatalf("draw %d: %x", many, x)
	}
}
