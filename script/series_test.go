package script_test

import (
	"bytes"
	"slices"
	"testing"

	"sconce/api"
	"sconce/script"
)

// plain is a script by the chapter's words: the bytes that are left.
type plain struct{ left []byte }

func (p *plain) read(n int) ([]byte, api.Errno) {
	if n < 0 {
		return nil, api.ErrRange
	}
	if n > len(p.left) {
		p.left = nil
		return nil, api.ErrSpent
	}
	out := p.left[:n]
	p.left = p.left[n:]
	return out, api.OK
}

func (p *plain) filled(n int) ([]byte, api.Errno) {
	if n < 0 {
		return nil, api.ErrRange
	}
	var out []byte
	for i, b := range p.left {
		if len(out) == n {
			p.left = p.left[i:]
			return out, api.OK
		}
		if b != 0 {
			out = append(out, b)
		}
	}
	p.left = nil
	if len(out) < n {
		return nil, api.ErrSpent
	}
	return out, api.OK
}

func (p *plain) below(m api.Nat) (api.Nat, int, api.Errno) {
	if len(m) > 300 {
		return nil, 0, api.ErrLong
	}
	width := highest(m) + 1
	if width < 2 {
		return nil, 0, api.ErrRange
	}
	size := (width + 7) / 8
	for draws := 1; ; draws++ {
		b, e := p.read(size)
		if e != api.OK {
			return nil, 0, e
		}
		x := make(api.Nat, len(m))
		for i := range width {
			x[i/64] += uint64(b[size-1-i/8]/(1<<(i%8))%2) << (i % 64)
		}
		if highest(x) >= 0 && isBelow(x, m) {
			return x, draws, api.OK
		}
	}
}

// highest is the place of x's highest bit, -1 of 0.
func highest(x api.Nat) int {
	for i := 64*len(x) - 1; i >= 0; i-- {
		if x[i/64]>>(i%64)%2 == 1 {
			return i
		}
	}
	return -1
}

// isBelow is asked at the highest word in which two numbers of one length differ.
func isBelow(a, b api.Nat) bool {
	for i := len(a) - 1; i >= 0; i-- {
		if a[i] != b[i] {
			return a[i] < b[i]
		}
	}
	return false
}

// someNumber has words of all kinds: few or many, none or some of them noughts at the top, few or many bits.
func someNumber(next func() uint64) api.Nat {
	n := int(next() >> 8 % 6)
	if next()>>8%16 == 0 {
		n = int(next() >> 8 % 302)
	}
	x := make(api.Nat, n)
	for i := range n - int(next()>>8%3) {
		x[i] = next()
		if next()>>8%8 == 0 {
			x[i] = top
		}
	}
	if n > 0 && next()>>8%2 == 0 {
		clear(x[1:])
		x[0] >>= next() >> 8 % 64
	}
	return x
}

// askSame asks a call of s and of p that is picked by chance.
func askSame(t *testing.T, s *script.Script, p *plain, next func() uint64) {
	t.Helper()
	n := int(next()>>8%10) - 1
	switch next() >> 8 % 3 {
	case 0:
		want, e := p.read(n)
		if got, is := s.Read(n); is != e || !bytes.Equal(got, want) {
			t.Fatalf("Read(%d): %d, error %d, not %d, error %d", n, got, is, want, e)
		}
	case 1:
		want, e := p.filled(n)
		if got, is := s.Filled(n); is != e || !bytes.Equal(got, want) {
			t.Fatalf("Filled(%d): %d, error %d, not %d, error %d", n, got, is, want, e)
		}
	case 2:
		m := someNumber(next)
		want, draws, e := p.below(m)
		if got, many, is := s.Below(m); is != e || many != draws || !slices.Equal(got, want) {
			t.Fatalf("Below(%x): %x, %d draws, error %d, not %x, %d draws, error %d", m, got, many, is, want, draws, e)
		}
	}
	if s.Left() != len(p.left) {
		t.Fatalf("%d bytes are left, not %d", s.Left(), len(p.left))
	}
}

// P15.1 to P15.4: calls of all kinds one behind the other on one script.
func TestSeries(t *testing.T) {
	next := spread(6)
	for round := range uint64(3000) {
		b := mixture(int(next()>>8%600), round)
		if round%10 == 0 {
			b = mixture(20000, round)
		}
		s, p := script.New(b), &plain{b}
		for range 40 {
			askSame(t, s, p, next)
		}
	}
}

// Calls of all kinds, spelt out.
func TestSeriesByHand(t *testing.T) {
	s := script.New([]byte{10, 11, 0, 0, 12, 0, 0, 6, 14, 0xfa, 1, 0, 255, 1, 0, 0, 13, 0, 20, 21})
	askRead(t, s, 0, nil)
	askRead(t, s, 2, []byte{10, 11})
	askFilled(t, s, 1, []byte{12})
	askFilled(t, s, 0, nil)
	askBelow(t, s, api.Nat{6, 0}, api.Nat{2, 0}, 5)
	askNotBelow(t, s, api.Nat{1}, api.ErrRange)
	askRead(t, s, 2, []byte{1, 0})
	askNoRead(t, s, -1, api.ErrRange)
	askBelow(t, s, api.Nat{300}, api.Nat{256 + 1}, 1)
	askFilled(t, s, 1, []byte{13})
	askNotFilled(t, s, -1, api.ErrRange)
	askRead(t, s, 1, []byte{0})
	askNotBelow(t, s, full(301), api.ErrLong)
	if s.Left() != 2 {
		t.Errorf("%d bytes are left, not 2", s.Left())
	}
	askNotFilled(t, s, 3, api.ErrSpent)
	askLeft(t, s, nil)
}
