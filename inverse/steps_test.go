package inverse

import (
	"testing"

	"sconce/api"
	"sconce/mont"
)

// The chapter's first words: d is to be seen in no answer, so the steps themselves are asked, beside plain ones of numbers that fit into an int64.

// plain is what the steps come to, as the chapter tells them.
type plain struct{ f, g, d int64 }

func (p plain) next() plain {
	if p.d > 0 && p.g&1 == 1 {
		return plain{f: p.g, g: (p.g - p.f) / 2, d: 1 - p.d}
	}
	if p.g&1 == 1 {
		return plain{f: p.f, g: (p.g + p.f) / 2, d: p.d + 1}
	}
	return plain{f: p.f, g: p.g / 2, d: p.d + 1}
}

// isSigned says whether x is number, as two's complement has it in x's words.
func isSigned(x api.Nat, number int64) bool {
	for _, w := range x[1:] {
		if w != uint64(number>>63) {
			return false
		}
	}
	return x[0] == uint64(number)
}

// isTimes says whether modulo m, which is small, number is c times a.
func isTimes(number int64, c api.Nat, a, m int64) bool {
	return c[0] < uint64(m) && (number-int64(c[0])*a)%m == 0
}

func checkSteps(t *testing.T, m api.Modulus, a int64) {
	t.Helper()
	number := int64(m.M[0])
	want := plain{f: number, g: a, d: 1}
	p := beginning(m, api.Nat{uint64(a)})
	for step := range Steps(wordBits) {
		if !isSigned(p.f, want.f) || !isSigned(p.g, want.g) || int64(p.d) != want.d {
			t.Fatalf("%d and %d, step %d: %x, %x, %d, not %v", number, a, step, p.f, p.g, int64(p.d), want)
		}
		if !isTimes(want.f, p.u, a, number) || !isTimes(want.g, p.v, a, number) {
			t.Fatalf("%d and %d, step %d: %v with the coefficients %d and %d", number, a, step, want, p.u, p.v)
		}
		p, want = stepped(nil, m, p), want.next()
	}
	if want.g != 0 {
		t.Errorf("%d and %d: g is still %d", number, a, want.g)
	}
}

func TestEachStep(t *testing.T) {
	for _, number := range []int64{3, 5, 7, 9, 15, 101, 105, 255, 1000003, 1<<31 - 1} {
		m, e := mont.Setup(api.Nat{uint64(number)})
		if e != api.OK {
			t.Fatal(number, e)
		}
		for a := range min(number, 60) {
			checkSteps(t, m, a)
			checkSteps(t, m, number-1-a)
			checkSteps(t, m, a*7919%number)
		}
	}
}
