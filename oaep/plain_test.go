package oaep_test

import (
	"bytes"
	"encoding/hex"
	"slices"
	"testing"

	"sconce/api"
	"sconce/hash"
	"sconce/mgf"
	"sconce/oaep"
	"sconce/script"
)

// plainSize is how many bytes a hash has, 0 of none.
func plainSize(h int) int {
	switch h {
	case 1:
		return 32
	case 2:
		return 48
	case 3:
		return 64
	}
	return 0
}

// plainHash is the hash of bytes.
func plainHash(h int, b []byte) []byte {
	out, _ := hash.Sum(h, slices.Clone(b))
	return out
}

// plainMasked are bytes under the mask of a seed: the hashes of it and of a count, one behind the other.
func plainMasked(h int, b, seed []byte) []byte {
	var out []byte
	for count := byte(0); len(out) < len(b); count++ {
		for _, value := range plainHash(h, append(slices.Clone(seed), 0, 0, 0, count)) {
			if len(out) < len(b) {
				out = append(out, b[len(out)]^value)
			}
		}
	}
	return out
}

// plainBlock is a first byte, a seed and DB as they stand under their masks.
func plainBlock(h int, first byte, seed, db []byte) []byte {
	hidden := plainMasked(h, db, seed)
	return slices.Concat([]byte{first}, plainMasked(h, seed, hidden), hidden)
}

// padded is a block with a label and what stands behind its hash, as it comes out of a seed.
func padded(h int, label, rest []byte) []byte {
	seed := mixture(plainSize(h), uint64(len(rest)))
	return plainBlock(h, 0, seed, append(plainHash(h, label), rest...))
}

// plainRoom is Room by the chapter's words.
func plainRoom(h, k int) (int, api.Errno) {
	if plainSize(h) == 0 {
		return 0, api.ErrHash
	}
	if k < 0 || k > mostBytes {
		return 0, api.ErrRange
	}
	if k < 2*plainSize(h)+2 {
		return 0, api.ErrShort
	}
	return k - 2*plainSize(h) - 2, api.OK
}

// plainEncode is Encode by the chapter's words, of the bytes of a script; beside it how many of them are left.
func plainEncode(h int, label, m []byte, k int, laid []byte) (out []byte, wrong api.Errno, left int) {
	room, wrong := plainRoom(h, k)
	if wrong != api.OK {
		return nil, wrong, len(laid)
	}
	if len(m) > room {
		return nil, api.ErrMessage, len(laid)
	}
	size := plainSize(h)
	if len(laid) < size {
		return nil, api.ErrSpent, 0
	}
	db := plainHash(h, label)
	for len(db) < k-size-1-len(m)-1 {
		db = append(db, 0)
	}
	db = append(append(db, 1), m...)
	return plainBlock(h, 0, laid[:size], db), api.OK, len(laid) - size
}

// plainDecode is Decode by the chapter's words.
func plainDecode(h int, label, em []byte) ([]byte, api.Errno) {
	size := plainSize(h)
	if size == 0 {
		return nil, api.ErrHash
	}
	if len(em) < 2*size+2 || len(em) > mostBytes || em[0] != 0 {
		return nil, api.ErrDecrypt
	}
	hidden := em[1+size:]
	seed := plainMasked(h, em[1:1+size], hidden)
	db := plainMasked(h, hidden, seed)
	if !bytes.HasPrefix(db, plainHash(h, label)) {
		return nil, api.ErrDecrypt
	}
	for i, value := range db[size:] {
		if value == 1 {
			return db[size+i+1:], api.OK
		}
		if value != 0 {
			return nil, api.ErrDecrypt
		}
	}
	return nil, api.ErrDecrypt
}

// The chapter's example.
func TestExample(t *testing.T) {
	askRoom(t, 1, 66, 0, api.OK)
	askRoom(t, 1, 65, 0, api.ErrShort)
}

// P24.1, P24.2 against what another program puts together of the seed 0 1 2 .. and the same text and label.
func TestKnown(t *testing.T) {
	for _, c := range []struct {
		h, k int
		hex  string
	}{
		{1, 72, "008899f10d63aee63020c32f93ef97340876abe0f2008185413f0566e9230667746a3e80d5e7ea6b2ca1c65a9e87f2579de2e13383bb6247c657899b59d6235f6605c7b57e63ab97"},
		{1, 128, "000578fa3c0510a4324a9e84995190a0e69354db0df1a9697b0aec07705af0bcab6a3e80d5e7ea6b2ca1c65a9e87f2579de2e13383bb6247c657899b59d6235f6604a6950a06d3e3308ad7d3606ef810eb124e3943404ca746a12c51c7bf7768390f8d842ac9cb62349779a7537a78327d545aaeb33b2d42c7d0bd16f4c1ca42"},
		{2, 106, "00183d3d271f56211fbecac7619df69198467d10bcdd819b941bfb0349e2550107a57b60f9af05292cd290214abbf80672bb0b5c396ebc5b9e13e98472039c95eb041a3f79f9e6bc7dc7c1ef8c977ef1bdcc10220f03113c3f87d768777c9cfd7b352c494c847ec84343"},
		{2, 128, "00f0b7529f9a9df381392d60d96506193cd06b608d840c673ef3a55f957e241fc62c68bb686ca6b0b838aea539cbfa7d2fbb0b5c396ebc5b9e13e98472039c95eb041a3f79f9e6bc7dc7c1ef8c977ef1bdcc10220f03113c3f87d768777c9cfd7b352c482da40aad3b37f333c7afa81a92b7b54551f3009efa4abaa9432c542e"},
		{3, 136, "0001161d040620c6a330fede1f917b9de7be79d82f5f16f1398b447a48c75d1d3682252621a1caaf039d6ffef1817ddf84f2ffc8dcacf7d6675d432e5c4de7e23ed213088d748ece25e7d8f88515eb2e75bb78b8ac995b2036ab759302cdd54e2effdbd0128e2bf856a54d3c5113d40d3828e393571f6b795935ae79688ec22b9f96c57063a07034"},
		{3, 200, "00a055aa0245b4caef638df0a606ff1a88caf7ebac95bbef846ef9322bc9f06c69db60ee0ae3280ce57d5f6de609c18ebaee5c17c1c380a20f29dbd7bc5b169f07d213088d748ece25e7d8f88515eb2e75bb78b8ac995b2036ab759302cdd54e2effdbd0128e2bf856a54d3c5113d40d3828e393571f6b795935ae79688ec22b9f97a45017c508401d375ad0fa856da3dfed20847716755c6b03163aec2d9f43ebc2904f6e2cf60d3b7637f656145a2d32a6029fbda96361e1b8090c9712a48938e7472124019bf3"},
	} {
		laid := make([]byte, 64)
		for i := range laid {
			laid[i] = byte(i)
		}
		want, err := hex.DecodeString(c.hex)
		if err != nil {
			t.Fatal(err)
		}
		got, e := oaep.Encode(c.h, []byte("label"), []byte("a text"), c.k, script.New(laid))
		if e != api.OK || !bytes.Equal(got, want) {
			t.Errorf("hash %d, %d bytes: %x, error %d, not %x", c.h, c.k, got, e, want)
		}
		askDecode(t, c.h, []byte("label"), want, []byte("a text"), api.OK)
	}
}

// P24.1, each part put together anew by hash.Sum and mgf.Mask.
func TestEncodeByParts(t *testing.T) {
	for _, h := range hashes {
		for _, k := range sizesFor(h) {
			size := hash.Size(h)
			seed, label := mixture(size, uint64(k)), filled(k%9, 3)
			m := mixture((k-2*size-2)/2, 7)
			db, _ := hash.Sum(h, label)
			db = slices.Concat(db, make([]byte, k-2*size-2-len(m)), []byte{1}, m)
			mask, _ := mgf.Mask(h, seed, k-size-1)
			hidden := mgf.Xor(db, mask)
			over, _ := mgf.Mask(h, hidden, size)
			want := slices.Concat([]byte{0}, mgf.Xor(seed, over), hidden)
			if got, e := oaep.Encode(h, label, m, k, script.New(seed)); e != api.OK || !bytes.Equal(got, want) {
				t.Errorf("hash %d, %d bytes: %x, error %d, not %x", h, k, got, e, want)
			}
		}
	}
}
