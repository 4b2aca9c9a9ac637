package mgf

import (
	"bytes"
	"encoding/hex"
	"testing"

	"sconce/api"
	"sconce/hash"
)

// P14.1: the blocks go on behind the longest mask's, and more than two of the count's four bytes count there.
func TestBlocksGoOn(t *testing.T) {
	known := map[int][3]string{
		255:   {"137561d7644e3cb2", "de59faeaaf3047d0", "26c6e9f025bcfb8a"},
		256:   {"1946c4b87ad607a9", "b2e8226d9a31a655", "a88a40509cbc504a"},
		257:   {"9b875ef4f760b831", "b0f8748ff13c90cc", "8c537c68fa28473c"},
		65535: {"d1b09b2be82b49bd", "2dc7fbe15c4e6654", "8af07caff7d73d35"},
		65536: {"c2132e329c5a12b8", "87ca1b7273229a7b", "e316ede837ba623c"},
		65537: {"6e4b6352f60e0c65", "74800d96df2b6936", "898b2bc687367392"},
	}
	for i, h := range []int{api.SHA256, api.SHA384, api.SHA512} {
		count, asked := 0, 0
		for block := range blocks(h, []byte("bar")) {
			if want, is := known[count]; is {
				asked++
				if got := hex.EncodeToString(block[:8]); got != want[i] {
					t.Errorf("block %d of hash %d: %s, not %s", count, h, got, want[i])
				}
			}
			if len(block) != hash.Size(h) {
				t.Fatalf("block %d of hash %d has %d bytes", count, h, len(block))
			}
			if count == 65537 {
				break
			}
			count++
		}
		if asked != len(known) {
			t.Errorf("hash %d: %d blocks were asked, not %d", h, asked, len(known))
		}
	}
}

// Blocks are told from 0 on each time, also behind a loop that was left, or within another one.
func TestBlocksBeginAnew(t *testing.T) {
	told := blocks(api.SHA256, []byte("bar"))
	first := func() []byte {
		for block := range told {
			return block
		}
		return nil
	}
	want, _ := hash.Sum(api.SHA256, []byte("bar\x00\x00\x00\x00"))
	count := 0
	for range told {
		if got := first(); !bytes.Equal(got, want) {
			t.Fatalf("%x, not %x", got, want)
		}
		if count++; count == 3 {
			break
		}
	}
}

// P14.1: all four bytes of the count, the highest ahead.
func TestLayCount(t *testing.T) {
	for _, c := range []struct {
		count uint32
		want  [4]byte
	}{
		{0, [4]byte{0, 0, 0, 0}},
		{1, [4]byte{0, 0, 0, 1}},
		{255, [4]byte{0, 0, 0, 255}},
		{256, [4]byte{0, 0, 1, 0}},
		{65536, [4]byte{0, 1, 0, 0}},
		{1 << 24, [4]byte{1, 0, 0, 0}},
		{0x01020304, [4]byte{1, 2, 3, 4}},
		{1<<32 - 1, [4]byte{255, 255, 255, 255}},
	} {
		place := []byte{9, 9, 9, 9}
		layCount(place, c.count)
		if [4]byte(place) != c.want {
			t.Errorf("%d: %d, not %d", c.count, place, c.want)
		}
	}
}
