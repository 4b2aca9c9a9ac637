package prime_test

import (
	"math/bits"
	"slices"

	"sconce/api"
)

const top = uint64(1<<64 - 1)

// full has n words, all of them ones.
func full(n int) api.Nat {
	return slices.Repeat(api.Nat{top}, n)
}

// single has n words, of which all but the one at a place are 0.
func single(n, place int, w uint64) api.Nat {
	x := make(api.Nat, n)
	x[place] = w
	return x
}

// longer is x with noughts at its top.
func longer(x api.Nat, more int) api.Nat {
	return append(slices.Clone(x), make(api.Nat, more)...)
}

// cut is x without noughts at its top.
func cut(x api.Nat) api.Nat {
	for len(x) > 0 && x[len(x)-1] == 0 {
		x = x[:len(x)-1]
	}
	return x
}

// spread tells words that are spread, others for each start.
func spread(start uint64) func() uint64 {
	w := 0x9e3779b97f4a7c15 * (2*start + 1)
	return func() uint64 {
		w ^= w << 13
		w ^= w >> 7
		w ^= w << 17
		return w
	}
}

// someBytes are as many bytes as are asked for, out of words that are spread.
func someBytes(next func() uint64, many int) []byte {
	b := make([]byte, many)
	for i := range b {
		b[i] = byte(next() >> 8)
	}
	return b
}

// someWords are the same in words.
func someWords(next func() uint64, many int) api.Nat {
	x := make(api.Nat, many)
	for i := range x {
		x[i] = next()
	}
	return x
}

// bitOf is bit i of x, the lowest being 0.
func bitOf(x api.Nat, i int) uint64 { return x[i/64] >> (i % 64) % 2 }

// widthOf is how many bits x has without noughts ahead.
func widthOf(x api.Nat) int {
	for i := 64*len(x) - 1; i >= 0; i-- {
		if bitOf(x, i) == 1 {
			return i + 1
		}
	}
	return 0
}

// inBytes is a number in size bytes, the highest ahead.
func inBytes(x api.Nat, size int) []byte {
	b := make([]byte, size)
	for i := range min(size, 8*len(x)) {
		b[size-1-i] = byte(x[i/8] >> (i % 8 * 8))
	}
	return b
}

// below says whether a is below b, whatever their lengths.
func below(a, b api.Nat) bool {
	a, b = cut(a), cut(b)
	if len(a) != len(b) {
		return len(a) < len(b)
	}
	for i := len(a) - 1; i >= 0; i-- {
		if a[i] != b[i] {
			return a[i] < b[i]
		}
	}
	return false
}

func takeAway(x, m api.Nat) {
	var borrow uint64
	for i, w := range m {
		x[i], borrow = bits.Sub64(x[i], w, borrow)
	}
}

// less is x less a word, in its length; x is not below it.
func less(x api.Nat, w uint64) api.Nat {
	out := slices.Clone(x)
	takeAway(out, longer(api.Nat{w}, len(x)-1))
	return out
}

// ones is 2 to the power of many, less a word.
func ones(many int, w uint64) api.Nat {
	x := full((many + 63) / 64)
	x[len(x)-1] >>= (64 - many%64) % 64
	return less(x, w-1)
}

// threes is 3 times 2 to the power of many - 2, and a word: many bits, of which the two highest are 1.
func threes(many int, w uint64) api.Nat {
	x := make(api.Nat, (many+63)/64)
	x[(many-1)/64] |= 1 << ((many - 1) % 64)
	x[(many-2)/64] |= 1 << ((many - 2) % 64)
	x[0] |= w
	return x
}

// slowMul is a b in as many words as both together, reckoned digit by digit at base 2^32.
func slowMul(a, b api.Nat) api.Nat {
	digits := func(x api.Nat) []uint64 {
		var list []uint64
		for _, w := range x {
			list = append(list, w%(1<<32), w>>32)
		}
		return list
	}
	x := make(api.Nat, len(a)+len(b))
	for i, d := range digits(a) {
		var carry uint64
		for j, e := range append(digits(b), 0) {
			place := i + j
			if place/2 == len(x) {
				continue
			}
			sum := d*e + carry + x[place/2]>>(place%2*32)%(1<<32)
			x[place/2] &^= (1<<32 - 1) << (place % 2 * 32)
			x[place/2] |= sum % (1 << 32) << (place % 2 * 32)
			carry = sum >> 32
		}
	}
	return x
}

// slowRest is x modulo m in m's length: it doubles and takes away.
func slowRest(x, m api.Nat) api.Nat {
	rest := make(api.Nat, len(m))
	for i := 64*len(x) - 1; i >= 0; i-- {
		over := bitOf(x, i)
		for j, w := range rest {
			rest[j], over = w<<1|over, w>>63
		}
		if over == 1 || !below(rest, m) {
			takeAway(rest, m)
		}
	}
	return rest
}

// slowPower is a to the power of e modulo m, from the exponent's lowest bit on.
func slowPower(a, e, m api.Nat) api.Nat {
	out := single(len(m), 0, 1)
	square := slowRest(a, m)
	for i := range widthOf(e) {
		if bitOf(e, i) == 1 {
			out = slowRest(slowMul(out, square), m)
		}
		square = slowRest(slowMul(square, square), m)
	}
	return out
}

// halved is x without its lowest bit.
func halved(x api.Nat) api.Nat {
	out := make(api.Nat, len(x))
	for i := range 64*len(x) - 1 {
		out[i/64] |= bitOf(x, i+1) << (i % 64)
	}
	return out
}

// isPrime goes by the definition.
func isPrime(n uint64) bool {
	for d := uint64(2); d*d <= n; d++ {
		if n%d == 0 {
			return false
		}
	}
	return n > 1
}

// smallPrimes are the primes up to 1000, asked one by one.
func smallPrimes() []uint64 {
	var list []uint64
	for n := range uint64(1001) {
		if isPrime(n) {
			list = append(list, n)
		}
	}
	return list
}

// greatestDivisor is the greatest number that divides two words, of which one isn't 0.
func greatestDivisor(a, b uint64) uint64 {
	for b > 0 {
		a, b = b, a%b
	}
	return a
}

// plainCandidate is Candidate by the chapter's words, brought down bit by bit.
func plainCandidate(b []byte, width int) (api.Nat, api.Errno) {
	if width < 16 || width > 4096 || len(b) != (width+7)/8 {
		return nil, api.ErrRange
	}
	x := make(api.Nat, (width+63)/64)
	for i := range width {
		bit := uint64(b[len(b)-1-i/8]) >> (i % 8) % 2
		if i == 0 || i == width-1 || i == width-2 {
			bit = 1
		}
		x[i/64] += bit << (i % 64)
	}
	return x, api.OK
}

// plainPasses is sieve.Passes by the words of chapter 16, out of the primes up to 1000.
func plainPasses(p api.Nat, primes []uint64) bool {
	p = cut(p)
	if len(p) == 0 || len(p) == 1 && p[0] == 1 {
		return false
	}
	for _, d := range primes {
		if slowRest(p, api.Nat{d})[0] == 0 {
			return len(p) == 1 && p[0] == d
		}
	}
	return true
}

// plainGood is Good by the chapter's words.
func plainGood(p api.Nat, e uint64, primes []uint64) bool {
	if e == 0 || !plainPasses(p, primes) {
		return false
	}
	return greatestDivisor(e, slowRest(less(p, 1), api.Nat{e})[0]) == 1
}

// plainStrong is Strong by the words of chapter 17, of an odd n above 3 without noughts at its top and a base from 2 to n - 2.
func plainStrong(n, base api.Nat) bool {
	last := less(n, 1)
	odd, twos := last, 0
	for odd[0]%2 == 0 {
		odd, twos = halved(odd), twos+1
	}
	power := slowPower(base, odd, n)
	is := slices.Equal(power, single(len(n), 0, 1)) || slices.Equal(power, last)
	for range twos - 1 {
		power = slowRest(slowMul(power, power), n)
		is = is || slices.Equal(power, last)
	}
	return is
}

// reader is a script by the words of chapter 15: the bytes that are left.
type reader struct{ left []byte }

func (r *reader) read(n int) ([]byte, api.Errno) {
	if n > len(r.left) {
		r.left = nil
		return nil, api.ErrSpent
	}
	b := r.left[:n]
	r.left = r.left[n:]
	return b, api.OK
}

// base is the next number from 2 to n - 2, in n's length; n has no noughts at its top.
func (r *reader) base(n api.Nat) (api.Nat, api.Errno) {
	size := (widthOf(n) + 7) / 8
	for {
		b, e := r.read(size)
		if e != api.OK {
			return nil, e
		}
		x := make(api.Nat, len(n))
		for i := range widthOf(n) {
			x[i/64] += uint64(b[size-1-i/8]) >> (i % 8) % 2 << (i % 64)
		}
		if below(api.Nat{1}, x) && below(x, less(n, 1)) {
			return x, api.OK
		}
	}
}

// rounds is miller.Rounds by the words of chapter 17, without the bases.
func (r *reader) rounds(n api.Nat, k int) (bool, api.Errno) {
	for range k {
		base, e := r.base(n)
		if e != api.OK {
			return false, e
		}
		if !plainStrong(n, base) {
			return false, api.OK
		}
	}
	return true, api.OK
}

// plainDraw is Draw by the chapter's words, and how many bytes are left.
func plainDraw(laid []byte, width int, e uint64, rounds int) drawn {
	if width < 16 || width > 4096 || e%2 == 0 || e <= 2 || rounds < 1 || rounds > 100 {
		return drawn{e: api.ErrRange, left: len(laid)}
	}
	r := &reader{laid}
	primes := smallPrimes()
	for many := range 100000 {
		b, wrong := r.read((width + 7) / 8)
		if wrong != api.OK {
			return drawn{e: wrong}
		}
		p, _ := plainCandidate(b, width)
		if !plainGood(p, e, primes) {
			continue
		}
		is, wrong := r.rounds(p, rounds)
		if wrong != api.OK {
			return drawn{e: wrong}
		}
		if is {
			return drawn{p: p, many: many + 1, left: len(r.left)}
		}
	}
	return drawn{e: api.ErrDraws, left: len(r.left)}
}

// drawn is what Draw tells, and how many bytes are left behind it.
type drawn struct {
	p    api.Nat
	many int
	e    api.Errno
	left int
}
