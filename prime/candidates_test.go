package prime

import (
	"testing"

	"sconce/api"
	"sconce/script"
)

// Candidates are counted from 1 on and read none ahead; bytes that run out end the attempt.
func TestCandidates(t *testing.T) {
	s := script.New([]byte{0, 0, 0, 4, 0x3f, 0xff, 0})
	want := []uint64{0xc001, 0xc005, 0xffff}
	told := 0
	e := attempt(func() {
		for count, x := range candidates(s, 16) {
			if count != told+1 || told == len(want) || len(x) != 1 || x[0] != want[told] {
				t.Fatalf("candidate %d: %x, the count being %d", told, x, count)
			}
			told++
			if left := 7 - 2*told; s.Left() != left {
				t.Errorf("%d bytes are left, not %d", s.Left(), left)
			}
		}
		t.Error("it came to an end by itself")
	})
	if told != len(want) || e != api.ErrSpent || s.Left() != 0 {
		t.Errorf("%d candidates, error %d, %d bytes are left", told, e, s.Left())
	}
}

// Behind as many as may be the attempt ends, and what is left is not read.
func TestCandidatesEnd(t *testing.T) {
	s := script.New(make([]byte, 200010))
	told := 0
	e := attempt(func() {
		for count := range candidates(s, 16) {
			told = count
		}
		t.Error("it came to an end by itself")
	})
	if told != 100000 || e != api.ErrDraws || s.Left() != 10 {
		t.Errorf("%d candidates, error %d, %d bytes are left", told, e, s.Left())
	}
}

// Behind a loop that was left they go on where the script stands, with a count of their own.
func TestCandidatesAreLeft(t *testing.T) {
	s := script.New([]byte{0, 2, 0, 4, 0, 6})
	told := candidates(s, 16)
	for _, want := range []uint64{0xc003, 0xc005, 0xc007} {
		e := attempt(func() {
			for count, x := range told {
				if count != 1 || x[0] != want {
					t.Errorf("%x, not %x, the count being %d", x, want, count)
				}
				return
			}
		})
		if e != api.OK {
			t.Errorf("error %d", e)
		}
	}
	if s.Left() != 0 {
		t.Errorf("%d bytes are left", s.Left())
	}
}
