package keygen_test

import (
	"encoding/binary"
	"slices"
	"testing"

	"sconce/api"
	"sconce/key"
	"sconce/keygen"
	"sconce/miller"
	"sconce/prime"
	"sconce/script"
)

// made is what Pair tells, and how many bytes are left behind it.
type made struct {
	p, q api.Nat
	e    api.Errno
	left int
}

// askPair asks what Pair tells of a script of these bytes, words and all, and of Generate what key.Of tells of that.
func askPair(t *testing.T, laid []byte, width int, e uint64, rounds int, want made) {
	t.Helper()
	before := slices.Clone(laid)
	s := script.New(laid)
	p, q, wrong := keygen.Pair(s, width, e, rounds)
	if wrong != want.e || !slices.Equal(p, want.p) || !slices.Equal(q, want.q) {
		t.Errorf("Pair of %d bits, e %d, %d rounds: %x and %x, error %d, not %x", width, e, rounds, p, q, wrong, want)
	}
	leaves(t, s, laid, want.left)

	k, fails := api.Key{}, want.e
	if want.e == api.OK {
		k, fails = key.Of(want.p, want.q, e)
	}
	s = script.New(laid)
	got, wrong := keygen.Generate(s, width, e, rounds)
	if wrong != fails || !sameKeys(got, k) {
		t.Errorf("Generate of %d bits, e %d, %d rounds: %x, error %d, not %x, error %d", width, e, rounds, got, wrong, k, fails)
	}
	leaves(t, s, laid, want.left)
	if !slices.Equal(laid, before) {
		t.Error("the bytes are changed")
	}
}

// askNobodys asks both calls on scripts without bytes for an error.
func askNobodys(t *testing.T, width int, e uint64, rounds int, want api.Errno) {
	t.Helper()
	for i, s := range nobodys() {
		for range 2 {
			if p, q, wrong := keygen.Pair(s, width, e, rounds); wrong != want || len(p) != 0 || len(q) != 0 {
				t.Errorf("Pair of %d bits, e %d, %d rounds, script %d: %x and %x, error %d, not %d", width, e, rounds, i, p, q, wrong, want)
			}
			if k, wrong := keygen.Generate(s, width, e, rounds); wrong != want || !sameKeys(k, api.Key{}) {
				t.Errorf("Generate of %d bits, e %d, %d rounds, script %d: %x, error %d, not %d", width, e, rounds, i, k, wrong, want)
			}
		}
	}
}

// mayBe says by the chapter's words whether there is a pair of these.
func mayBe(width int, e uint64, rounds int) bool {
	is := false
	for multiple := 0; multiple <= 8192; multiple += 128 {
		is = is || multiple == width && multiple >= 32
	}
	return is && e%2 == 1 && 3 <= e && e <= 0xffffffff && 1 <= rounds && rounds <= 100
}

// byHand is Pair by the chapter's words, out of prime.Draw.
func byHand(laid []byte, width int, e uint64, rounds int) made {
	if !mayBe(width, e, rounds) {
		return made{e: api.ErrRange, left: len(laid)}
	}
	s := script.New(laid)
	p, _, wrong := prime.Draw(s, width/2, e, rounds)
	if wrong != api.OK {
		return made{e: wrong, left: s.Left()}
	}
	for {
		q, _, wrong := prime.Draw(s, width/2, e, rounds)
		if wrong != api.OK {
			return made{e: wrong, left: s.Left()}
		}
		if !slices.Equal(p, q) {
			return made{p: p, q: q, left: s.Left()}
		}
	}
}

// reader is a script by the words of chapter 15: the bytes that are left. It tells words of 64 bits.
type reader struct{ left []byte }

func (r *reader) word() (uint64, api.Errno) {
	if len(r.left) < 8 {
		r.left = nil
		return 0, api.ErrSpent
	}
	w := binary.BigEndian.Uint64(r.left)
	r.left = r.left[8:]
	return w, api.OK
}

// rounds is miller.Rounds by the words of chapter 17, of an odd n of 64 bits.
func (r *reader) rounds(n uint64, k int) (bool, api.Errno) {
	for k > 0 {
		base, wrong := r.word()
		if wrong != api.OK {
			return false, wrong
		}
		if base < 2 || base > n-2 {
			continue
		}
		if !plainStrong(n, base) {
			return false, api.OK
		}
		k--
	}
	return true, api.OK
}

// draw is prime.Draw by the words of chapter 18, of 64 bits.
func (r *reader) draw(e uint64, rounds int) (uint64, api.Errno) {
	for range 100000 {
		x, wrong := r.word()
		if wrong != api.OK {
			return 0, wrong
		}
		x |= 3<<62 | 1
		if !plainGood(x, e) {
			continue
		}
		is, wrong := r.rounds(x, rounds)
		if is || wrong != api.OK {
			return x, wrong
		}
	}
	return 0, api.ErrDraws
}

// plainPair is Pair by the chapter's words, of 128 bits, without a call of the program.
func plainPair(laid []byte, e uint64, rounds int) made {
	r := &reader{laid}
	p, wrong := r.draw(e, rounds)
	q := p
	for wrong == api.OK && q == p {
		q, wrong = r.draw(e, rounds)
	}
	if wrong != api.OK {
		return made{e: wrong, left: len(r.left)}
	}
	return made{p: api.Nat{p}, q: api.Nat{q}, left: len(r.left)}
}

// drawn is a number that passed, and the bases with which it did.
type drawn struct {
	x     api.Nat
	bases []api.Nat
}

// drawsOf are all numbers of so many bits that pass, as the bytes of a script have them, each with its bases.
func drawsOf(laid []byte, half int, e uint64, rounds int) []drawn {
	var list []drawn
	s := script.New(laid)
	for {
		b, wrong := s.Read(half / 8)
		if wrong != api.OK {
			return list
		}
		x, _ := prime.Candidate(b, half)
		if !prime.Good(x, e) {
			continue
		}
		is, bases, wrong := miller.Rounds(s, x, rounds)
		if wrong != api.OK {
			return list
		}
		if is {
			list = append(list, drawn{x, bases})
		}
	}
}
