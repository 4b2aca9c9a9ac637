package private_test

import (
	"bytes"
	"math/big"
	"slices"
	"testing"

	"sconce/api"
	"sconce/private"
	"sconce/script"
	"sconce/trace"
)

// What stands in this file goes by the chapters' words and by big numbers of another kind, without a call of the program, but for what asks it.

// plainOf is the key of these, and whether there is one (chapter 19).
func plainOf(p, q api.Nat, e uint64) (api.Key, bool) {
	for _, x := range []api.Nat{p, q} {
		v := valueOf(x)
		if len(x) > 300 || v.BitLen() > 8192 || v.BitLen() < 2 || v.Bit(0) == 0 {
			return api.Key{}, false
		}
	}
	a, b := valueOf(p), valueOf(q)
	n, one := times(a, b), small(1)
	if divisor(a, b).Cmp(one) != 0 || n.BitLen() < 32 || n.BitLen() > 8192 || e%2 == 0 || e < 3 || e >= 1<<32 {
		return api.Key{}, false
	}
	lessA, lessB := less(a, 1), less(b, 1)
	common := new(big.Int).Div(times(lessA, lessB), divisor(lessA, lessB))
	d := new(big.Int).ModInverse(small(e), common)
	if d == nil {
		return api.Key{}, false
	}
	half := max(words(a), words(b))
	return api.Key{
		N: natOf(n), E: e, D: wordsOf(d, words(n)),
		P: wordsOf(a, half), Q: wordsOf(b, half),
		DP: wordsOf(rest(d, lessA), half), DQ: wordsOf(rest(d, lessB), half),
		QI: wordsOf(new(big.Int).ModInverse(b, a), half),
	}, true
}

// plainCheck is what key.Check says of k.
func plainCheck(k api.Key) api.Errno {
	made, is := plainOf(k.P, k.Q, k.E)
	if !is || !sameKeys(k, made) {
		return api.ErrKey
	}
	return api.OK
}

// plainAdmitted is the error that Apply and Plain have ahead of all others.
func plainAdmitted(k api.Key, c []byte) api.Errno {
	if wrong := plainCheck(k); wrong != api.OK {
		return wrong
	}
	n := valueOf(k.N)
	if len(c) != sizeOf(n) || new(big.Int).SetBytes(c).Cmp(n) >= 0 {
		return api.ErrRange
	}
	return api.OK
}

// plainScript is the bytes that are left of a script.
type plainScript struct{ left []byte }

// below is a number from 1 to n - 1 and how many draws it took, and whether there were enough bytes (chapter 15).
func (s *plainScript) below(n *big.Int) (*big.Int, int, bool) {
	size := sizeOf(n)
	for many := 1; ; many++ {
		if len(s.left) < size {
			s.left = nil
			return nil, 0, false
		}
		x := new(big.Int).SetBytes(s.left[:size])
		s.left = s.left[size:]
		x.Mod(x, twos(n.BitLen()))
		if x.Sign() > 0 && x.Cmp(n) < 0 {
			return x, many, true
		}
	}
}

// plainBlind is Blind by the chapter's words.
func plainBlind(s *plainScript, n api.Nat) (*big.Int, int, api.Errno) {
	v := valueOf(n)
	if v.BitLen() < 2 || v.Bit(0) == 0 || len(n) > 300 || words(v) > 130 {
		return nil, 0, api.ErrRange
	}
	many := 0
	for {
		r, draws, is := s.below(v)
		if !is {
			return nil, 0, api.ErrSpent
		}
		many += draws
		if divisor(r, v).Cmp(small(1)) == 0 {
			return r, many, api.OK
		}
	}
}

// course is the numbers of a power, each as it goes on, and whether the last one is right.
type course struct {
	x, y, z, m *big.Int
	right      bool
}

// plainCourse is the power of c by the chapter's words, with r, and with a fault.
func plainCourse(k api.Key, c []byte, r *big.Int, f api.Fault) course {
	n, p, q, number, e := valueOf(k.N), valueOf(k.P), valueOf(k.Q), new(big.Int).SetBytes(c), small(k.E)
	strike := func(at int, v, modulus *big.Int) *big.Int {
		if at == f.At {
			with := slices.Clone(f.With[:min(len(f.With), words(modulus))])
			v = valueOf(with)
		}
		return rest(v, modulus)
	}
	b := rest(times(number, raised(r, e, n)), n)
	x := strike(1, raised(b, valueOf(k.DP), p), p)
	y := strike(2, raised(b, valueOf(k.DQ), q), q)
	difference := new(big.Int).Sub(x, y)
	z := strike(3, sum(y, times(q, rest(times(valueOf(k.QI), difference), p))), n)
	m := strike(4, times(z, new(big.Int).ModInverse(r, n)), n)
	return course{x, y, z, m, raised(m, e, n).Cmp(number) == 0}
}

// plainApply is Apply by the chapter's words.
func plainApply(k api.Key, c []byte, s *plainScript, f api.Fault) ([]byte, api.Errno) {
	if wrong := plainAdmitted(k, c); wrong != api.OK {
		return nil, wrong
	}
	r, _, wrong := plainBlind(s, k.N)
	if wrong != api.OK {
		return nil, wrong
	}
	done := plainCourse(k, c, r, f)
	if !done.right {
		return make([]byte, len(c)), api.ErrFault
	}
	return bytesOf(done.m, len(c)), api.OK
}

// plainPlain is Plain by the chapter's words.
func plainPlain(k api.Key, c []byte) ([]byte, api.Errno) {
	if wrong := plainAdmitted(k, c); wrong != api.OK {
		return nil, wrong
	}
	m := raised(new(big.Int).SetBytes(c), valueOf(k.D), valueOf(k.N))
	return bytesOf(m, len(c)), api.OK
}

// scriptOf is a script of those bytes; of nil, and if that is asked for, none.
func scriptOf(b []byte, none bool) *script.Script {
	if b == nil && none {
		return nil
	}
	return script.New(b)
}

// askLeft asks what is left of a script, byte by byte.
func askLeft(t *testing.T, s *script.Script, want []byte) {
	t.Helper()
	got, _ := s.Read(s.Left())
	if !bytes.Equal(got, want) {
		t.Fatalf("%d bytes of the script are left: %x, not %d: %x", len(got), got, len(want), want)
	}
}

// askApply asks of Apply what the chapter's words say: without a trace and with one (one of both alone, if the key is long), of lists with others beside them, of which nothing is to be read or changed, also by whoever changes the answer. It tells the error.
func askApply(t *testing.T, k api.Key, c, b []byte, f api.Fault) api.Errno {
	t.Helper()
	left := &plainScript{b}
	want, wrong := plainApply(k, c, left, f)
	for i, tr := range []*trace.Trace{nil, trace.New()} {
		if len(k.N) > 1 && (len(f.With)+f.At+i)%2 == 0 {
			continue
		}
		g := &guard{beside: byte(len(b))}
		if tr == nil {
			g.beside = 255
		}
		s := scriptOf(b, tr == nil)
		got, is := private.Apply(tr, g.key(k), g.list(c), s, api.Fault{At: f.At, With: g.number(f.With)})
		if is != wrong || !bytes.Equal(got, want) {
			t.Fatalf("Apply(%x, %x, %x, %d with %x): %x, error %d, not %x, error %d", k, c, b, f.At, f.With, got, is, want, wrong)
		}
		askLeft(t, s, left.left)
		spoil(got)
		if g.changed() {
			t.Fatalf("Apply(%x, %x, %x, %d with %x): an argument or what is beside it is changed", k, c, b, f.At, f.With)
		}
	}
	return wrong
}

// askPlain asks of Plain what the chapter's words say, likewise.
func askPlain(t *testing.T, k api.Key, c []byte) {
	t.Helper()
	want, wrong := plainPlain(k, c)
	for _, beside := range []byte{0, 255} {
		g := &guard{beside: beside}
		got, is := private.Plain(g.key(k), g.list(c))
		if is != wrong || !bytes.Equal(got, want) {
			t.Fatalf("Plain(%x, %x): %x, error %d, not %x, error %d", k, c, got, is, want, wrong)
		}
		spoil(got)
		if g.changed() {
			t.Fatalf("Plain(%x, %x): an argument or what is beside it is changed", k, c)
		}
	}
}

// askBlind asks of Blind what the chapter's words say, likewise. It tells how many draws it took.
func askBlind(t *testing.T, n api.Nat, b []byte) int {
	t.Helper()
	left := &plainScript{b}
	r, many, wrong := plainBlind(left, n)
	var want api.Nat
	if wrong == api.OK {
		want = wordsOf(r, len(n))
	}
	for _, beside := range []byte{0, 255} {
		g := &guard{beside: beside}
		s := scriptOf(b, beside == 0)
		got, draws, is := private.Blind(s, g.number(n))
		if is != wrong || draws != many || !slices.Equal(got, want) {
			t.Fatalf("Blind(%x, %x): %x, %d draws, error %d, not %x, %d draws, error %d", b, n, got, draws, is, want, many, wrong)
		}
		spoil(got)
		if g.changed() {
			t.Fatalf("Blind(%x, %x): n or what is beside it is changed", b, n)
		}
		askLeft(t, s, left.left)
	}
	return many
}
