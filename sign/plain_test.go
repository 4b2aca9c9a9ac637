package sign_test

import (
	"bytes"
	"encoding/hex"
	"slices"
	"testing"

	"sconce/api"
	"sconce/hash"
	"sconce/sign"
)

// unhex are the bytes that digits tell.
func unhex(digits string) []byte {
	b, err := hex.DecodeString(digits)
	if err != nil {
		panic(err)
	}
	return b
}

// plainPrefix is what RFC 8017 has ahead of a hash, none of no hash.
func plainPrefix(h int) []byte {
	switch h {
	case 1:
		return unhex("3031300d060960864801650304020105000420")
	case 2:
		return unhex("3041300d060960864801650304020205000430")
	case 3:
		return unhex("3051300d060960864801650304020305000440")
	}
	return nil
}

// plainTold is T of a message, none of no hash.
func plainTold(h int, m []byte) []byte {
	sum, _ := hash.Sum(h, slices.Clone(m))
	return append(plainPrefix(h), sum...)
}

// plainEncode is Encode by the chapter's words.
func plainEncode(h int, m []byte, k int) ([]byte, api.Errno) {
	told := plainTold(h, m)
	if len(told) == 0 {
		return nil, api.ErrHash
	}
	if k < 0 || k > mostBytes {
		return nil, api.ErrRange
	}
	if k < len(told)+11 {
		return nil, api.ErrShort
	}
	out := []byte{0, 1}
	for range k - 3 - len(told) {
		out = append(out, 255)
	}
	return append(append(out, 0), told...), api.OK
}

// plainVerify is Verify by the chapter's words.
func plainVerify(h int, m, em []byte) bool {
	want, wrong := plainEncode(h, m, len(em))
	return wrong == api.OK && string(want) == string(em)
}

// The chapter's example.
func TestExample(t *testing.T) {
	got, e := sign.Encode(1, []byte(""), 62)
	sum, _ := hash.Sum(1, nil)
	want := slices.Concat([]byte{0, 1, 255, 255, 255, 255, 255, 255, 255, 255, 0}, hash.Prefix(1), sum)
	if e != api.OK || !bytes.Equal(got, want) {
		t.Errorf("%d, error %d, not %d", got, e, want)
	}
	if !sign.Verify(1, nil, want) {
		t.Error("the example doesn't verify")
	}
}

// P25.1, P25.2 against what another program puts together.
func TestKnown(t *testing.T) {
	for _, c := range []struct {
		h, k int
		m    string
		hex  string
	}{
		{1, 62, "", "0001ffffffffffffffff003031300d060960864801650304020105000420e3b0c44298fc1c149afbf4c8996fb92427ae41e4649b934ca495991b7852b855"},
		{1, 70, "a text", "0001ffffffffffffffffffffffffffffffff003031300d060960864801650304020105000420734194ede5b063e654d63cb95a682ca1551b45e3cc86e88f1a85c1286eedd4ac"},
		{2, 78, "", "0001ffffffffffffffff003041300d06096086480165030402020500043038b060a751ac96384cd9327eb1b1e36a21fdb71114be07434c0cc7bf63f6e1da274edebfe76f65fbd51ad2f14898b95b"},
		{2, 100, "a text", "0001ffffffffffffffffffffffffffffffffffffffffffffffffffffffffffff003041300d060960864801650304020205000430c887ff3b8389ff297a6382468ee2f9fa3cbc3a753607a4f520dbf2ea67565ad6517bb425c04bcf84a836f4dab2f23da9"},
		{3, 94, "", "0001ffffffffffffffff003051300d060960864801650304020305000440cf83e1357eefb8bdf1542850d66d8007d620e4050b5715dc83f4a921d36ce9ce47d0d13c5d85f2b0ff8318d2877eec2f63b931bd47417a81a538327af927da3e"},
		{3, 128, "a text", "0001ffffffffffffffffffffffffffffffffffffffffffffffffffffffffffffffffffffffffffffffffffff003051300d060960864801650304020305000440e943b338e3ba5901eee91e83be0edee3143804939b400d6652aa2a6f9cae2fffb7309ddec7cfd199636bdbe32b910bfdbfd184f1d15932a0846ddeef63e5a238"},
	} {
		want := unhex(c.hex)
		if got, e := sign.Encode(c.h, []byte(c.m), c.k); e != api.OK || !bytes.Equal(got, want) {
			t.Errorf("hash %d, %q, %d bytes: %x, error %d, not %x", c.h, c.m, c.k, got, e, want)
		}
		askVerify(t, c.h, []byte(c.m), want, true)
	}
}

// P25.1, each part put together anew by hash.Prefix and hash.Sum.
func TestEncodeByParts(t *testing.T) {
	for _, h := range hashes {
		for i, m := range messages() {
			for _, k := range sizesFor(h) {
				sum, _ := hash.Sum(h, m)
				told := append(hash.Prefix(h), sum...)
				want := slices.Concat([]byte{0, 1}, ones(k-3-len(told)), []byte{0}, told)
				if got, e := sign.Encode(h, m, k); e != api.OK || !bytes.Equal(got, want) {
					t.Errorf("hash %d, message %d, %d bytes: %x, error %d, not %x", h, i, k, got, e, want)
				}
			}
		}
	}
}
