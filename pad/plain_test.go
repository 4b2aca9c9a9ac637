package pad_test

import (
	"testing"

	"sconce/api"
	"sconce/pad"
	"sconce/script"
)

// plainEncode is Encode by the chapter's words, of the bytes of a script; beside it how many of them are left.
func plainEncode(m []byte, k int, laid []byte) (out []byte, wrong api.Errno, left int) {
	if k < 0 || k > mostBytes {
		return nil, api.ErrRange, len(laid)
	}
	if k < leastRoom || len(m) > k-leastRoom {
		return nil, api.ErrMessage, len(laid)
	}
	out = append(out, 0, 2)
	for i, value := range laid {
		if len(out) == k-len(m)-1 {
			return append(append(out, 0), m...), api.OK, len(laid) - i
		}
		if value != 0 {
			out = append(out, value)
		}
	}
	if len(out) == k-len(m)-1 {
		return append(append(out, 0), m...), api.OK, 0
	}
	return nil, api.ErrSpent, 0
}

// plainDecode is Decode by the chapter's words.
func plainDecode(em []byte) ([]byte, api.Errno) {
	if len(em) > mostBytes || len(em) < 2 || em[0] != 0 || em[1] != 2 {
		return nil, api.ErrDecrypt
	}
	for i := 2; i < len(em); i++ {
		if em[i] == 0 && i-2 < 8 {
			return nil, api.ErrDecrypt
		}
		if em[i] == 0 {
			return em[i+1:], api.OK
		}
	}
	return nil, api.ErrDecrypt
}

// plainEqual is Equal by the chapter's words.
func plainEqual(a, b []byte) uint64 {
	if string(a) == string(b) {
		return 1
	}
	return 0
}

// plainFind is Find by the chapter's words.
func plainFind(b []byte, c byte, from int) (int, uint64) {
	for i, value := range b {
		if i >= from && value == c {
			return i, 1
		}
	}
	return len(b), 0
}

// The chapter's example.
func TestExample(t *testing.T) {
	askDecode(t, []byte{0, 2, 1, 1, 1, 1, 1, 1, 1, 1, 0, 7}, []byte{7}, api.OK)
}

// P23.1 and P23.2 as they are written down elsewhere: bytes put together by hand.
func TestByHand(t *testing.T) {
	em := []byte{0, 2, 1, 255, 2, 254, 3, 253, 4, 252, 0, 'h', 'i'}
	laid := []byte{0, 0, 1, 255, 0, 2, 254, 3, 0, 0, 0, 253, 4, 252, 0, 9}
	s := script.New(laid)
	got, e := pad.Encode([]byte("hi"), len(em), s)
	if e != api.OK || string(got) != string(em) || s.Left() != 2 {
		t.Errorf("%d, error %d, %d left", got, e, s.Left())
	}
	askDecode(t, em, []byte("hi"), api.OK)
}
