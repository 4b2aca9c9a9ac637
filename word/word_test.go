package word_test

import (
	"bytes"
	"testing"

	"sconce/word"
)

const top = uint64(1<<64 - 1)

// words are the edges of a word and some that are spread over all of it.
func words() []uint64 {
	list := []uint64{0, 1, 2, 3, 5, 6, 7, 8, 255, 256, 257, 1<<31 - 1, 1 << 31, 1<<32 - 1, 1 << 32, 1<<32 + 1, 1<<63 - 1, 1 << 63, 1<<63 + 1, top - 2, top - 1, top, 0x123456789abcdef1}
	x := uint64(0x9e3779b97f4a7c15)
	for range 20 {
		x ^= x << 13
		x ^= x >> 7
		x ^= x << 17
		list = append(list, x)
	}
	return list
}

// bitWords are words as bits: only the lowest bit may count.
var bitWords = []uint64{0, 1, 2, 3, 4, 5, 1 << 32, 1<<32 + 1, 1 << 63, 1<<63 + 1, top - 1, top}

func number(is bool) uint64 {
	if is {
		return 1
	}
	return 0
}

// slowAdd adds by halves of 32 bits, which leave room for what is carried.
func slowAdd(a, b, bit uint64) (uint64, uint64) {
	const half = 1<<32 - 1
	lower := a&half + b&half + bit
	upper := a>>32 + b>>32 + lower>>32
	return upper<<32 | lower&half, upper >> 32
}

// slowMul doubles and adds, bit by bit.
func slowMul(a, b, c, d uint64) (uint64, uint64) {
	var upper, lower, carry uint64
	for i := range 64 {
		upper, lower = upper<<1|lower>>63, lower<<1
		if b>>(63-i)&1 == 1 {
			lower, carry = slowAdd(lower, a, 0)
			upper += carry
		}
	}
	lower, carry = slowAdd(lower, c, 0)
	upper += carry
	lower, carry = slowAdd(lower, d, 0)
	return upper + carry, lower
}

// P1.1
func TestAddExamples(t *testing.T) {
	for _, c := range []struct{ a, b, carry, sum, out uint64 }{
		{0, 0, 0, 0, 0},
		{0, 0, 1, 1, 0},
		{2, 3, 0, 5, 0},
		{2, 3, 1, 6, 0},
		{2, 3, 2, 5, 0},
		{top - 1, 1, 0, top, 0},
		{top - 1, 1, 1, 0, 1},
		{top, 0, 0, top, 0},
		{top, 0, 1, 0, 1},
		{top, 1, 0, 0, 1},
		{top, 1, 1, 1, 1},
		{0, top, 1, 0, 1},
		{1 << 63, 1 << 63, 0, 0, 1},
		{top, top, 0, top - 1, 1},
		{top, top, 1, top, 1},
		{top, top, 3, top, 1},
		{top, top, top - 1, top - 1, 1},
	} {
		if sum, out := word.Add(c.a, c.b, c.carry); sum != c.sum || out != c.out {
			t.Errorf("Add(%d, %d, %d) = %d, %d, not %d, %d", c.a, c.b, c.carry, sum, out, c.sum, c.out)
		}
	}
}

// P1.1
func TestAddAll(t *testing.T) {
	for _, a := range words() {
		for _, b := range words() {
			for _, carry := range bitWords {
				wantSum, wantOut := slowAdd(a, b, carry%2)
				if sum, out := word.Add(a, b, carry); sum != wantSum || out != wantOut {
					t.Fatalf("Add(%d, %d, %d) = %d, %d, not %d, %d", a, b, carry, sum, out, wantSum, wantOut)
				}
			}
		}
	}
}

// P1.1
func TestSubExamples(t *testing.T) {
	for _, c := range []struct{ a, b, borrow, rest, out uint64 }{
		{0, 0, 0, 0, 0},
		{0, 0, 1, top, 1},
		{0, 0, 2, 0, 0},
		{5, 3, 0, 2, 0},
		{5, 3, 1, 1, 0},
		{5, 5, 0, 0, 0},
		{5, 5, 1, top, 1},
		{5, 5, 3, top, 1},
		{3, 5, 0, top - 1, 1},
		{3, 5, 1, top - 2, 1},
		{0, top, 0, 1, 1},
		{0, top, 1, 0, 1},
		{top, 0, 1, top - 1, 0},
		{top, top, 0, 0, 0},
		{top, top, top, top, 1},
		{1 << 63, 1<<63 - 1, 1, 0, 0},
	} {
		if rest, out := word.Sub(c.a, c.b, c.borrow); rest != c.rest || out != c.out {
			t.Errorf("Sub(%d, %d, %d) = %d, %d, not %d, %d", c.a, c.b, c.borrow, rest, out, c.rest, c.out)
		}
	}
}

// P1.1
func TestSubAll(t *testing.T) {
	for _, a := range words() {
		for _, b := range words() {
			for _, borrow := range bitWords {
				odd := borrow%2 == 1
				wantRest := a - b - borrow%2
				wantOut := number(a < b || a == b && odd)
				if rest, out := word.Sub(a, b, borrow); rest != wantRest || out != wantOut {
					t.Fatalf("Sub(%d, %d, %d) = %d, %d, not %d, %d", a, b, borrow, rest, out, wantRest, wantOut)
				}
			}
		}
	}
}

// P1.2
func TestMulExamples(t *testing.T) {
	for _, c := range []struct{ a, b, c, d, upper, lower uint64 }{
		{0, 0, 0, 0, 0, 0},
		{0, top, 3, 4, 0, 7},
		{6, 7, 8, 9, 0, 59},
		{1 << 32, 1 << 32, 5, 6, 1, 11},
		{0, 0, top, 1, 1, 0},
		{0, 0, 1, top, 1, 0},
		{0, 0, top, top, 1, top - 1},
		{1, top, 1, 0, 1, 0},
		{1, top, 0, 1, 1, 0},
		{1, top, top, top, 2, top - 2},
		{top, top, 0, 0, top - 1, 1},
		{top, top, top, 0, top, 0},
		{top, top, top, top, top, top},
	} {
		if upper, lower := word.Mul(c.a, c.b, c.c, c.d); upper != c.upper || lower != c.lower {
			t.Errorf("Mul(%d, %d, %d, %d) = %d, %d, not %d, %d", c.a, c.b, c.c, c.d, upper, lower, c.upper, c.lower)
		}
	}
}

// P1.2
func TestMulAll(t *testing.T) {
	more := []uint64{0, 1, 1 << 63, top - 1, top, 0xfedcba9876543210}
	for _, a := range words() {
		for _, b := range words() {
			for _, c := range more {
				for _, d := range more {
					wantUpper, wantLower := slowMul(a, b, c, d)
					if upper, lower := word.Mul(a, b, c, d); upper != wantUpper || lower != wantLower {
						t.Fatalf("Mul(%d, %d, %d, %d) = %d, %d, not %d, %d", a, b, c, d, upper, lower, wantUpper, wantLower)
					}
				}
			}
		}
	}
}

// P1.3
func TestMask(t *testing.T) {
	for _, bit := range append(words(), bitWords...) {
		want := uint64(0)
		if bit%2 == 1 {
			want = top
		}
		if got := word.Mask(bit); got != want {
			t.Errorf("Mask(%d) = %d, not %d", bit, got, want)
		}
	}
}

// P1.3
func TestSelect(t *testing.T) {
	for _, bit := range bitWords {
		for _, a := range words() {
			for _, b := range words() {
				want := b
				if bit%2 == 1 {
					want = a
				}
				if got := word.Select(bit, a, b); got != want {
					t.Fatalf("Select(%d, %d, %d) = %d, not %d", bit, a, b, got, want)
				}
			}
		}
	}
}

// P1.4
func TestEqualLess(t *testing.T) {
	for _, a := range words() {
		for _, b := range words() {
			if got, want := word.Equal(a, b), number(a == b); got != want {
				t.Errorf("Equal(%d, %d) = %d, not %d", a, b, got, want)
			}
			if got, want := word.Less(a, b), number(a < b); got != want {
				t.Errorf("Less(%d, %d) = %d, not %d", a, b, got, want)
			}
		}
	}
}

// P1.4: words that differ in one bit alone, each of the 64.
func TestEqualZeroBitByBit(t *testing.T) {
	for i := range 64 {
		one := uint64(1) << i
		if word.Zero(one) != 0 || word.Zero(top^one) != 0 {
			t.Errorf("Zero of a word that differs from 0 at bit %d", i)
		}
		for _, a := range words() {
			if word.Equal(a, a^one) != 0 {
				t.Errorf("Equal(%d, %d) = 1", a, a^one)
			}
		}
	}
}

// P1.4
func TestZero(t *testing.T) {
	for _, a := range words() {
		if got, want := word.Zero(a), number(a == 0); got != want {
			t.Errorf("Zero(%d) = %d, not %d", a, got, want)
		}
	}
}

// P1.5
func TestInverse(t *testing.T) {
	if got := word.Inverse(3); got != 0xAAAAAAAAAAAAAAAB {
		t.Errorf("Inverse(3) = %x", got)
	}
	list := words()
	for i := range 64 {
		list = append(list, 1<<i, 1<<i+1, 1<<i-1)
	}
	for i := range uint64(2048) {
		list = append(list, i, top-i)
	}
	for _, a := range list {
		got := word.Inverse(a)
		if a%2 == 1 && a*got != 1 {
			t.Errorf("Inverse(%d) = %d: their product is %d", a, got, a*got)
		}
		if a%2 == 0 && got != 0 {
			t.Errorf("Inverse(%d) = %d, not 0", a, got)
		}
	}
}

// P1.6
func TestPut(t *testing.T) {
	for _, c := range []struct {
		a    uint64
		want string
	}{
		{0, "\x00\x00\x00\x00\x00\x00\x00\x00"},
		{1, "\x00\x00\x00\x00\x00\x00\x00\x01"},
		{258, "\x00\x00\x00\x00\x00\x00\x01\x02"},
		{0x0102030405060708, "\x01\x02\x03\x04\x05\x06\x07\x08"},
		{0xfedcba9876543210, "\xfe\xdc\xba\x98\x76\x54\x32\x10"},
		{1 << 63, "\x80\x00\x00\x00\x00\x00\x00\x00"},
		{top, "\xff\xff\xff\xff\xff\xff\xff\xff"},
	} {
		if got := word.Put(c.a); string(got) != c.want {
			t.Errorf("Put(%d) = %x, not %x", c.a, got, c.want)
		}
	}
}

// P1.6
func TestGet(t *testing.T) {
	for _, c := range []struct {
		b    string
		want uint64
	}{
		{"", 0},
		{"\x00", 0},
		{"\x07", 7},
		{"\xff", 255},
		{"\x01\x02", 258},
		{"\x01\x02\x03", 0x010203},
		{"\x80\x00\x00\x01", 0x80000001},
		{"\x01\x02\x03\x04\x05", 0x0102030405},
		{"\x01\x02\x03\x04\x05\x06", 0x010203040506},
		{"\xff\xfe\xfd\xfc\xfb\xfa\xf9", 0xfffefdfcfbfaf9},
		{"\x01\x02\x03\x04\x05\x06\x07\x08", 0x0102030405060708},
		{"\xff\xff\xff\xff\xff\xff\xff\xff", top},
		{"\x00\x00\x00\x00\x00\x00\x00\x01\x09", 1},
		{"\x01\x02\x03\x04\x05\x06\x07\x08\x09\x0a\x0b", 0x0102030405060708},
	} {
		if got := word.Get([]byte(c.b)); got != c.want {
			t.Errorf("Get(%x) = %d, not %d", c.b, got, c.want)
		}
	}
}

// P1.6
func TestGetOfPut(t *testing.T) {
	for _, a := range words() {
		if got := word.Get(word.Put(a)); got != a {
			t.Errorf("Get(Put(%d)) = %d", a, got)
		}
	}
}

// P1 and P3
func TestGetOfNothing(t *testing.T) {
	if word.Get(nil) != 0 || word.Get([]byte{}) != 0 || word.Get([]byte{1, 2, 3}[:0]) != 0 {
		t.Error("Get of no bytes isn't 0")
	}
}

// P2
func TestPutIsNewMemory(t *testing.T) {
	first := word.Put(258)
	if len(first) != cap(first) {
		t.Errorf("Put hands out %d bytes behind its end", cap(first)-len(first))
	}
	second := word.Put(258)
	for i := range first {
		first[i] = 0xee
	}
	if word.Get(second) != 258 || word.Get(word.Put(258)) != 258 {
		t.Error("two answers of Put share memory")
	}
}

// P2
func TestGetLeavesItsBytes(t *testing.T) {
	all := []byte{1, 2, 3, 4, 5, 6, 7, 8, 9, 10, 11, 12}
	for n := range len(all) + 1 {
		before := bytes.Clone(all)
		got := word.Get(all[:n])
		if !bytes.Equal(all, before) {
			t.Fatalf("Get of %d bytes changed them to %x", n, all)
		}
		if want := word.Get(bytes.Clone(all[:n])); got != want {
			t.Errorf("Get of %d bytes reads what lies behind them: %x, not %x", n, got, want)
		}
	}
}
