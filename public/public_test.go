package public_test

import (
	"bytes"
	"slices"
	"testing"

	"sconce/api"
	"sconce/key"
	"sconce/public"
)

// sample is a power that was reckoned elsewhere, in digits of four bits.
type sample struct {
	n    string
	e    uint64
	m    string
	want string
}

func samples() []sample {
	return []sample{
		{"a1420b21", 3, "38d727ff", "20d21953"},
		{"cddea66387", 17, "26fbc32fdb", "77ef3b3b98"},
		{"c25fea0f23fcda23", 65537, "240d2b99c940ceaf", "0007a686be190d4b"},
		{"17a93c65a6da308c3", 4294967295, "0139a174e93e8bf76d", "008050b06a05f38314"},
		{"be65ed0c16cebf5d2d24b8583", 3, "0a3d73b6ac293ce9371f72ed19", "0b07059ab6126a61f464ac8de0"},
		{
			"c22a9d260093f90fba780912b18cbfbf68f28cc715e648f54e85fa6225d3b02e1c4be318cd294c499911d928660811d9a64bc15828d65ec517fe0d12e0f3c35b",
			65537,
			"403834abdbe456f48da048083472b4fd9107f3198931fae007c4beabdca09d76e57e5861a1e28076126d41aeb2d22cf168bd6eef8fb726f5c2c6b29771715c73",
			"b3fa6f43afc4afe2c0a40845a915590c7ac1eeae7522dee50ac5a1baa8669221286eed0451861cd6aac09289cca774031272cf34fa4b399bcca7bac72edbb0a3",
		},
		{
			"f1960e15526b22aec3d53f1e72d074974388c73669e91359bd674f759ad96f8bf658368b6288a47e22d9e3d09d9b7c3bd6c151c1548e06991ee669eb1e9ac16dc74094e0b05b471dbdc3327406a860593bfcb5f24b70de4c02f36984f80b6690c89ee8afa83f48aebf99127121bf8061fc6abc1d6124f01fd5106a0df1b94585",
			65537,
			"f060e90e43f4ba40e0d4262e43a1da6db7ac90cc0e5eaf7cb91a5867ed8d0ddfd4c3ecf449aece9a8c5b63d62ac54392ea4c74f3690507128db9691be444d755e7a5f6d0e801b509597945c03e8df4a4d1bd65b3f018998e4f3d04120e7343a3e56b88397f05d6d057ded64341570336cdf3f1518d28b27c66cd14d28e18b866",
			"98ad1fef219c5ae43210a1939ea273478e06e093a4c262e1454c944d3f326442d09276246ad533ceb92e7837220f905d56dee84b2ad501e312ea70780ca1215d4679c5a77f4bc3b354b6ec5fce81ecb100586840a0f6b0ff0ba93dc6602187eb11dabf7d7dc10981d2a2d0b66bd7c84dc3f71d632cb260ed792400c94950a02e",
		},
	}
}

// P21.1 in numbers reckoned elsewhere; a byte more or less is refused, a nought ahead of all others among them.
func TestSamples(t *testing.T) {
	for _, c := range samples() {
		n, m := shown(t, c.n), unhexed(t, c.m)
		ask(t, n, c.e, m, unhexed(t, c.want), api.OK)
		ask(t, n, c.e, m[1:], nil, api.ErrRange)
		ask(t, n, c.e, m[:len(m)-1], nil, api.ErrRange)
		ask(t, n, c.e, slices.Concat([]byte{0}, m), nil, api.ErrRange)
		ask(t, n, c.e, slices.Concat(m, []byte{0}), nil, api.ErrRange)
	}
}

// P21.1: the chapter's example, and the other numbers that an odd power leaves as they are: 0 and n - 1.
func TestKept(t *testing.T) {
	for _, n := range slices.Concat(rightModuli(), greatModuli()) {
		for _, e := range rightExponents {
			if len(n) > 20 && e != 3 && e != 65537 {
				continue
			}
			for _, x := range []api.Nat{{0}, {1}, less(n, 1)} {
				m := bytesOf(x, sizeOf(n))
				ask(t, n, e, m, m, api.OK)
			}
		}
	}
}

// P21.1 in powers that stay below n, and so have noughts ahead.
func TestShort(t *testing.T) {
	for _, c := range []struct {
		n    api.Nat
		e    uint64
		m    []byte
		want []byte
	}{
		{api.Nat{65521 * 65537}, 3, []byte{0, 0, 0, 5}, []byte{0, 0, 0, 125}},
		{api.Nat{65521 * 65537}, 3, []byte{0, 0, 1, 0}, []byte{1, 0, 0, 0}},
		{api.Nat{1<<31 + 1}, 31, []byte{0, 0, 0, 2}, []byte{128, 0, 0, 0}},
		{api.Nat{1<<31 + 1}, 33, []byte{0, 0, 0, 2}, []byte{127, 255, 255, 255 - 2}},
		{api.Nat{1<<32 - 1}, 33, []byte{0, 0, 0, 2}, []byte{0, 0, 0, 2}},
		{api.Nat{1<<32 + 1}, 5, []byte{0, 0, 0, 0, 3}, []byte{0, 0, 0, 0, 243}},
		{api.Nat{1<<32 + 1}, 33, []byte{0, 0, 0, 0, 2}, []byte{0, 255, 255, 255, 255}},
		{api.Nat{1<<40 + 1}, 5, []byte{0, 0, 0, 0, 1, 0}, []byte{1, 0, 0, 0, 0, 0}},
		{api.Nat{1, 1}, 3, []byte{0, 0, 0, 0, 0, 0, 1, 0, 0}, []byte{0, 0, 1, 0, 0, 0, 0, 0, 0}},
		{api.Nat{1, 1}, 65, []byte{0, 0, 0, 0, 0, 0, 0, 0, 2}, []byte{0, 255, 255, 255, 255, 255, 255, 255, 255}},
	} {
		ask(t, c.n, c.e, c.m, c.want, api.OK)
	}
	for _, n := range greatModuli() {
		size := sizeOf(n)
		ask(t, n, 17, bytesOf(api.Nat{2}, size), bytesOf(api.Nat{1 << 17}, size), api.OK)
		ask(t, n, 3, bytesOf(api.Nat{1 << 21}, size), bytesOf(api.Nat{1 << 63}, size), api.OK)
	}
}

// P21.1: key.Public's error, also where m may not be either, of whatever length it is.
func TestKeyError(t *testing.T) {
	refused := func(n api.Nat, e uint64) {
		t.Helper()
		size := sizeOf(n)
		for _, m := range [][]byte{nil, {}, {0}, {1}, {255}, {0, 0, 0, 1}, bytesOf(api.Nat{1}, size), bytesOf(api.Nat{1}, size+1), bytesOf(n, size), bytesOf(api.Nat{1}, max(size-1, 0)), bytesOf(api.Nat{1}, 8*len(n)), bytes.Repeat([]byte{255}, size)} {
			ask(t, n, e, m, nil, api.ErrKey)
		}
	}
	for _, n := range wrongModuli() {
		for _, e := range []uint64{0, 2, 3, 65537, 1<<32 - 1, top} {
			refused(n, e)
		}
	}
	for _, n := range slices.Concat(rightModuli(), greatModuli()) {
		for _, e := range wrongExponents {
			refused(n, e)
		}
	}
}

// P21.1: m of another length than n needs, and of numbers that aren't below n.
func TestRangeError(t *testing.T) {
	for _, n := range slices.Concat(rightModuli(), greatModuli()) {
		size := sizeOf(n)
		var list [][]byte
		for _, other := range []int{0, 1, 2, 3, size / 2, size - 1, size + 1, size + 2, size + 7, size + 8, 2 * size, 1024, 1025, 2400, 2401, 5000} {
			if other != size {
				list = append(list, make([]byte, other), bytesOf(api.Nat{1}, other), bytesOf(less(n, 1), other), bytes.Repeat([]byte{255}, other))
			}
		}
		list = append(list, nil, []byte{}, bytesOf(n, size), bytesOf(n, size+1))
		next := moved(n, 1)
		list = append(list, bytesOf(next, sizeOf(next)), bytesOf(next, size+1))
		if all := bytes.Repeat([]byte{255}, size); !below(numberOf(all, len(n)), n) {
			list = append(list, all)
		}
		for _, m := range list {
			for _, e := range []uint64{3, 65537, 1<<32 - 1} {
				ask(t, n, e, m, nil, api.ErrRange)
			}
		}
	}
}

// P21.1: a number that isn't below n in one bit alone, and one that is.
func TestEdgeOfRange(t *testing.T) {
	for _, n := range slices.Concat(rightModuli(), greatModuli()) {
		size := sizeOf(n)
		for i := range 8 * size {
			if size > 200 && i%197 > 0 {
				continue
			}
			x := slices.Clone(n)
			x[i/64] ^= 1 << (i % 64)
			m := bytesOf(x, size)
			if below(x, n) {
				if got, e := public.Apply(n, 3, m); e != api.OK || len(got) != size || !below(numberOf(got, len(n)), n) {
					t.Errorf("Apply(%x, 3, %x): %x, error %d", n, m, got, e)
				}
				continue
			}
			ask(t, n, 3, m, nil, api.ErrRange)
		}
	}
}

// numbersBeside are numbers about a modulus's edges, and others, in as many bytes as it needs.
func numbersBeside(n api.Nat) [][]byte {
	size, next := sizeOf(n), spread(n[0])
	list := [][]byte{nil, bytes.Repeat([]byte{255}, size), bytes.Repeat([]byte{255}, size-1), bytesOf(moved(n, 1), size)}
	for _, x := range []api.Nat{{0}, {1}, {2}, {255}, {256}, less(n, 2), less(n, 1), n, someBelow(next, n), someBelow(next, n)} {
		list = append(list, bytesOf(x, size))
	}
	return list
}

// P21.1 against the chapter's words.
func TestAgainstWords(t *testing.T) {
	for _, n := range rightModuli() {
		for _, e := range rightExponents {
			if len(n) > 10 && e > 65537 {
				continue
			}
			for _, m := range numbersBeside(n) {
				askPlain(t, n, e, m)
			}
		}
	}
}

// P21.1 against the chapter's words, of moduli of each width from 32 bits on: with the highest byte 1, 255 and between.
func TestWidths(t *testing.T) {
	next := spread(1)
	for width := 32; width <= 8192; width += 1 + max(0, width-200)/5 {
		for _, n := range moduliOf(width) {
			askPlain(t, n, 3, bytesOf(someBelow(next, n), sizeOf(n)))
		}
	}
}

// P21.1 against the chapter's words, of moduli of up to 8192 bits.
func TestGreat(t *testing.T) {
	next := spread(2)
	for _, n := range greatModuli() {
		askPlain(t, n, 3, bytesOf(someBelow(next, n), sizeOf(n)))
	}
	n := someOdd(next, 8192)
	m := bytesOf(someBelow(next, n), 1024)
	for _, e := range []uint64{65537, 1<<32 - 1} {
		askPlain(t, n, e, m)
	}
}

// P21.1 with words, of many numbers: modulo n below 2^32 a product of two is a word.
func TestWords(t *testing.T) {
	next := spread(3)
	for range 3000 {
		n, e := next()%(1<<31)|1<<31|1, next()>>(32+next()%30)|3
		x := next() % n
		power := uint64(1)
		for bit := 31; bit >= 0; bit-- {
			power = power * power % n
			if e>>bit%2 == 1 {
				power = power * x % n
			}
		}
		ask(t, api.Nat{n}, e, bytesOf(api.Nat{x}, 4), bytesOf(api.Nat{power}, 4), api.OK)
	}
}

// P21.1: n need not be a product of two primes, nor m be without a divisor together with it.
func TestOtherProducts(t *testing.T) {
	for _, c := range []struct {
		what string
		n    api.Nat
	}{
		{"a prime of 32 bits", api.Nat{1<<32 - 5}},
		{"a prime of 61 bits", api.Nat{1<<61 - 1}},
		{"a prime of 127 bits", greatestOdd(127)},
		{"a prime of 521 bits", greatestOdd(521)},
		{"a square", api.Nat{65537 * 65537}},
		{"3 to the power of 40", api.Nat{12157665459056928801}},
		{"the first odd primes", api.Nat{3 * 5 * 7 * 11 * 13 * 17 * 19 * 23 * 29 * 31 * 37 * 41 * 43 * 47}},
		{"2 to the power of 64 less 1, with 3 and 5 in it", full(1)},
		{"2 to the power of 1024 less 1, likewise", full(16)},
	} {
		t.Run(c.what, func(t *testing.T) {
			size := sizeOf(c.n)
			for _, x := range []api.Nat{{3}, {15}, {47}, {3 * 3 * 5}, {65537}, {2 * 65537}, {13 * 17 * 19 * 23}, {3486784401}} {
				for _, e := range []uint64{3, 65537, 1<<32 - 1} {
					askPlain(t, c.n, e, bytesOf(x, size))
				}
			}
			for _, m := range numbersBeside(c.n) {
				askPlain(t, c.n, 17, m)
			}
		})
	}
	// Powers of a number that is no nought may be one.
	ask(t, api.Nat{65537 * 65537}, 3, bytesOf(api.Nat{65537}, 5), make([]byte, 5), api.OK)
	ask(t, api.Nat{12157665459056928801}, 41, bytesOf(api.Nat{3}, 8), make([]byte, 8), api.OK)
}

// P21.1 of keys: what one power does the other one undoes.
func TestUndone(t *testing.T) {
	for _, c := range []struct {
		p, q api.Nat
		e    uint64
	}{
		{api.Nat{65521}, api.Nat{65537}, 17},
		{api.Nat{1<<61 - 1}, api.Nat{1<<31 - 1}, 65537},
		{greatestOdd(127), greatestOdd(89), 1<<32 - 5},
		{greatestOdd(521), greatestOdd(607), 65537},
	} {
		k, wrong := key.Of(c.p, c.q, c.e)
		if wrong != api.OK {
			t.Fatalf("of %x and %x there is no key: %d", c.p, c.q, wrong)
		}
		for _, m := range numbersBeside(k.N) {
			got, wrong := public.Apply(k.N, k.E, m)
			if wrong != api.OK {
				continue
			}
			x := longer(api.Nat{1}, len(k.N)-1)
			for i := widthOf(k.D) - 1; i >= 0; i-- {
				x = slowProduct(x, x, k.N)
				if k.D[i/64]>>(i%64)%2 == 1 {
					x = slowProduct(x, numberOf(got, len(k.N)), k.N)
				}
			}
			if back := bytesOf(x, len(m)); !bytes.Equal(back, m) {
				t.Errorf("of %x modulo %x there is %x, of which comes %x", m, k.N, got, back)
			}
		}
	}
}

// P2: whoever changes an answer, with what lies behind it, changes no earlier and no later one; an argument that is changed behind the call changes no answer.
func TestApart(t *testing.T) {
	for _, c := range samples() {
		n, m, want := shown(t, c.n), unhexed(t, c.m), unhexed(t, c.want)
		earlier, _ := public.Apply(n, c.e, m)
		got, _ := public.Apply(n, c.e, m)
		spoil(got)
		later, e := public.Apply(n, c.e, m)
		if e != api.OK || !bytes.Equal(earlier, want) || !bytes.Equal(later, want) {
			t.Errorf("with one answer another one is changed: %x and %x, not %x", earlier, later, want)
		}
		clear(n)
		spoil(m)
		if !bytes.Equal(earlier, want) || !bytes.Equal(later, want) {
			t.Errorf("with an argument an answer is changed: %x and %x, not %x", earlier, later, want)
		}
	}
	// Powers that are the number itself are new memory, too.
	for _, n := range slices.Concat(rightModuli()[:8], greatModuli()) {
		m := bytesOf(api.Nat{1}, sizeOf(n))
		got, _ := public.Apply(n, 3, m)
		spoil(m)
		if want := bytesOf(api.Nat{1}, len(m)); !bytes.Equal(got, want) {
			t.Errorf("Apply(%x, 3, 1) with m changed behind it: %x", n, got)
		}
	}
}
