package oaep_test

import (
	"slices"
	"testing"

	"sconce/api"
	"sconce/oaep"
)

// askRoom asks what Room tells.
func askRoom(t *testing.T, h, k, want int, wrong api.Errno) {
	t.Helper()
	if got, e := oaep.Room(h, k); got != want || e != wrong {
		t.Errorf("Room(%d, %d): %d, error %d, not %d, error %d", h, k, got, e, want, wrong)
	}
}

// P24.3 of each hash and each k that there may be, and some to both sides.
func TestRoom(t *testing.T) {
	for _, h := range hashes {
		for k := -200; k <= 1300; k++ {
			want, wrong := plainRoom(h, k)
			askRoom(t, h, k, want, wrong)
		}
	}
}

// P24.3 at the edges, numbers written out.
func TestRoomEdges(t *testing.T) {
	for _, c := range []struct {
		h, k, want int
		wrong      api.Errno
	}{
		{1, 0, 0, api.ErrShort}, {1, 1, 0, api.ErrShort}, {1, 65, 0, api.ErrShort}, {1, 66, 0, api.OK}, {1, 67, 1, api.OK}, {1, 1024, 958, api.OK}, {1, 1025, 0, api.ErrRange},
		{2, 0, 0, api.ErrShort}, {2, 1, 0, api.ErrShort}, {2, 97, 0, api.ErrShort}, {2, 98, 0, api.OK}, {2, 99, 1, api.OK}, {2, 1024, 926, api.OK}, {2, 1025, 0, api.ErrRange},
		{3, 0, 0, api.ErrShort}, {3, 1, 0, api.ErrShort}, {3, 129, 0, api.ErrShort}, {3, 130, 0, api.OK}, {3, 131, 1, api.OK}, {3, 1024, 894, api.OK}, {3, 1025, 0, api.ErrRange},
	} {
		askRoom(t, c.h, c.k, c.want, c.wrong)
	}
}

// P24.3, P4: of no hash ErrHash, whatever k is; ErrRange of k that may not be.
func TestRoomErrors(t *testing.T) {
	wrong := slices.Concat(belowNought, aboveMost)
	for _, h := range noHashes {
		for _, k := range slices.Concat(wrong, []int{0, 1, 2, 65, 66, 98, 130, 512, 1024}) {
			askRoom(t, h, k, 0, api.ErrHash)
		}
	}
	for _, h := range hashes {
		for _, k := range wrong {
			askRoom(t, h, k, 0, api.ErrRange)
		}
	}
}
