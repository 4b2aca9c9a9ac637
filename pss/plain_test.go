package pss_test

import (
	"bytes"
	"crypto/sha256"
	"encoding/hex"
	"slices"
	"testing"

	"sconce/api"
	"sconce/hash"
	"sconce/mgf"
	"sconce/pss"
)

// unhex are the bytes that digits tell.
func unhex(digits string) []byte {
	b, err := hex.DecodeString(digits)
	if err != nil {
		panic(err)
	}
	return b
}

// plainSize is S, 0 of no hash.
func plainSize(h int) int {
	switch h {
	case 1:
		return 32
	case 2:
		return 48
	case 3:
		return 64
	}
	return 0
}

// plainLength is L, counted up; 0 of bits that there may not be.
func plainLength(bits int) int {
	if bits < 1 || bits > mostBits {
		return 0
	}
	length := 0
	for 8*length < bits {
		length++
	}
	return length
}

// plainRoom is how many bytes a salt has at most; below 0, if there is no room for any.
func plainRoom(h, bits int) int {
	return plainLength(bits) - plainSize(h) - 2
}

// plainSum is H.
func plainSum(h int, m, salt []byte) []byte {
	first, _ := hash.Sum(h, slices.Clone(m))
	all := append([]byte{0, 0, 0, 0, 0, 0, 0, 0}, first...)
	out, _ := hash.Sum(h, append(all, salt...))
	return out
}

// plainLaid is DB exclusive-or its mask, as it stands.
func plainLaid(h int, db, sum []byte) []byte {
	mask, _ := mgf.Mask(h, sum, len(db))
	out := make([]byte, len(db))
	for i := range db {
		out[i] = db[i] ^ mask[i]
	}
	return out
}

// plainCleared is a list whose highest 8 L - bits bits are 0.
func plainCleared(list []byte, bits int) []byte {
	out := slices.Clone(list)
	out[0] &= byte(1<<(8-8*plainLength(bits)+bits) - 1)
	return out
}

// built is a block put together of any DB and H, masked.
func built(h int, db, sum []byte, bits int) []byte {
	return slices.Concat(plainCleared(plainLaid(h, db, sum), bits), sum, []byte{188})
}

// plainDB is DB with so much room, and a salt.
func plainDB(room int, salt []byte) []byte {
	return slices.Concat(make([]byte, room-len(salt)), []byte{1}, salt)
}

// plainEncode is Encode by the chapter's words.
func plainEncode(h int, m []byte, bits int, salt []byte) ([]byte, api.Errno) {
	if plainSize(h) == 0 {
		return nil, api.ErrHash
	}
	if bits < 1 || bits > mostBits {
		return nil, api.ErrRange
	}
	if plainLength(bits) < plainSize(h)+len(salt)+2 {
		return nil, api.ErrShort
	}
	return built(h, plainDB(plainRoom(h, bits), salt), plainSum(h, m, salt), bits), api.OK
}

// plainVerify is Verify by the chapter's words: H, as it stands in a block, leaves no more than one salt that the block can have, and its answer is held against the block.
func plainVerify(h int, m, em []byte, bits, salt int) bool {
	room := plainRoom(h, bits)
	if plainSize(h) == 0 || room < 0 || salt < 0 || salt > room || len(em) != plainLength(bits) {
		return false
	}
	db := plainLaid(h, em[:room+1], em[room+1:len(em)-1])
	want, wrong := plainEncode(h, m, bits, db[len(db)-salt:])
	return wrong == api.OK && string(want) == string(em)
}

// The chapter's example.
func TestExample(t *testing.T) {
	if got, e := pss.Encode(1, []byte(""), 264, nil); e != api.ErrShort || len(got) != 0 {
		t.Errorf("%d, error %d", got, e)
	}
	if got, e := pss.Encode(1, []byte(""), 272, nil); e != api.OK || len(got) != 34 || got[33] != 188 {
		t.Errorf("%d, error %d", got, e)
	}
}

// P26.1, P26.2 against what another program puts together.
func TestKnown(t *testing.T) {
	for _, c := range []struct {
		h, bits      int
		m, salt, hex string
	}{
		{1, 272, "", "", "a29a0be4ec109b7ca51504ebd60835e9599f33a732c47c5450301784f5c28edd63bc"},
		{1, 265, "a text", "", "00d3c6f5d9dbd871fc6bf21e7fc6bc05d7ef89d76bf4091b4b3b3e3481192905c2bc"},
		{1, 305, "m", "73616c74", "01ce71f171b7ded5468c59db326ed0c0d181019ff5c7d2f861963083a623ccc2e12a8a18b0ccbc"},
		{1, 311, "m", "73616c74", "47ce71f171b7ded5468c59db326ed0c0d181019ff5c7d2f861963083a623ccc2e12a8a18b0ccbc"},
		{1, 312, "m", "73616c74", "47ce71f171b7ded5468c59db326ed0c0d181019ff5c7d2f861963083a623ccc2e12a8a18b0ccbc"},
		{1, 400, "m", "73616c74", "47cf02901dc3dabac255dcba2e2ba2ead7ded5468c59db326ed0c0d181019ff5c7d2f861963083a623ccc2e12a8a18b0ccbc"},
		{1, 528, "a text", "000102030405060708090a0b0c0d0e0f101112131415161718191a1b1c1d1e1f", "a29a845920635d049c3166950d2357b38135d277af1fc5cf0a3d19782027431ef981484d7ef9f2b29e812a7242a71f18be4382eecfa8b017907274d40afc9ca33cbc"},
		{2, 393, "", "", "014756a49a7d676a492f79c5b36156e307748a97cc449303b446289721ee7db6997547a82987311c4f5e410066b87ec4b8bc"},
		{2, 400, "a text", "", "ad5076c5cf9a0b9aab65b013d549090a1820e6952dd8ea5e80fc3f5fe96609cf920eb47683419c764e9fbc5c75395f785cbc"},
		{2, 511, "a text", "010001", "49c8b303c38dac0e33eaf4ae17f5cc5a9fbaa34fd6333530d92b7bafe573f6a2d3beb41ef66783b4f4d3d568a02ce2c890c2ce3b4e81e2ab16f8c9dcda8579bc"},
		{2, 790, "a text", "000102030405060708090a0b0c0d0e0f101112131415161718191a1b1c1d1e1f202122232425262728292a2b2c2d2e2f", "23804a30a3cc0f8212093b8356d9340ea3e6cc44b1a6e066dbd6cad14872eb964f7860492ac18093dfc9882668d15acf9d9e798ec7a8d5af9a3be08b7b4abfff51ca14bb3118e9bc733aeb8deb73c389f069be4851a85240291d73fa43c3c3c6f5e3bc"},
		{3, 521, "", "", "01b65ba53ebdd453215d6c932e1a890b5a78419954086272f554b22a1c6aae619ebc2c627d5363cbe83d04f2e68db2744c3dc1855ec0093131a84c51ad0cd57ba0bc"},
		{3, 528, "a text", "", "6bd8da7ebc91f4cd1a91789f9a04c3f4ff858f9a055f61f032156e656705863964035d998f8b7efd0423a00a4605e611526a1c1bfcce907a791a19e8f1dcb29f1cbc"},
		{3, 767, "a text", "ffffffffffffffffffff", "2a65867b7a4fb197ee272eb749194538a8d3b1028394cfc24adaaa8154345cae826edc0ece86fe46ba327c91d8e4180880a2c144c1605862c5c257b18fca57467546d47e088128b4bafcffb65f4037ada7dc61bd7d610f2eae068948fe5bccbc"},
		{3, 1027, "a text", "000102030405060708090a0b0c0d0e0f101112131415161718191a1b1c1d1e1f202122232425262728292a2b2c2d2e2f303132333435363738393a3b3c3d", "02c3f7afe725dcebc7148b82b725f308b1ef705d15d1ffe378fb18332a6fc1b51c265f920cf084eea808ce12f164e11f3fe9b9c7a94397f40a90c464c69ba9414f56d92b8bb4f5c49aca61d0b167e2f390a53942f240b367222c18cfbc63523e03911f400c80cb7a91a47bfc0ba1a43e164cab3887aabcf8a5bea10c91b2202ebc"},
	} {
		want, salt := unhex(c.hex), unhex(c.salt)
		if got, e := pss.Encode(c.h, []byte(c.m), c.bits, salt); e != api.OK || !bytes.Equal(got, want) {
			t.Errorf("hash %d, %q, %d bits, salt %s: %x, error %d, not %x", c.h, c.m, c.bits, c.salt, got, e, want)
		}
		askVerify(t, c.h, []byte(c.m), want, c.bits, len(salt), true)
		askVerify(t, c.h, []byte(c.m+"."), want, c.bits, len(salt), false)
		askVerify(t, c.h, []byte(c.m), want, c.bits, len(salt)+1, false)
	}
}

// P26.1 of the most bits against the SHA-256 of what another program puts together.
func TestKnownOfMostBits(t *testing.T) {
	for _, c := range []struct {
		h, bits int
		salt    []byte
		hex     string
	}{
		{1, 8192, counted(32), "5e1bdf8a1a02e018e2f46c143941c59be699d0970c6ceeea9b61f167d33f209a"},
		{2, 8191, counted(48), "b9058d17e54c40c2dccc0acd0a82640e278f77a984c3ea86896a10ba7dfca127"},
		{3, 8185, counted(64), "bf3f043615b9b84d98109b0abbcb36cb7867332ac9663c9dd1758a1b36b0ce32"},
		{1, 8192, same(990, 7), "cfb4a4570d29f505af29cdf4e2bc619e4938aac0c658568f6f6e9f6ccdb1f3c8"},
	} {
		got, e := pss.Encode(c.h, []byte("a text"), c.bits, c.salt)
		sum := sha256.Sum256(got)
		if e != api.OK || len(got) != 1024 || !bytes.Equal(sum[:], unhex(c.hex)) {
			t.Errorf("hash %d, %d bits, a salt of %d: %x, error %d", c.h, c.bits, len(c.salt), got, e)
		}
		askVerify(t, c.h, []byte("a text"), got, c.bits, len(c.salt), true)
	}
}

// counted has the bytes from 0 on.
func counted(n int) []byte {
	b := make([]byte, n)
	for i := range b {
		b[i] = byte(i)
	}
	return b
}
