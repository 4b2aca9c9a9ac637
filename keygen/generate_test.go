package keygen_test

import (
	"slices"
	"testing"

	"sconce/api"
	"sconce/key"
	"sconce/keygen"
	"sconce/miller"
	"sconce/nat"
	"sconce/script"
)

// sample is a key that was reckoned elsewhere, and of what: mixed bytes from a start on, of which so many are read.
type sample struct {
	start  uint32
	width  int
	e      uint64
	rounds int
	read   int
	key    [7]string // N, D, P, Q, DP, DQ, QI
}

func samples() []sample {
	return []sample{
		{1, 128, 65537, 2, 424, [7]string{
			"0xba424c34461144d5459582349522c333",
			"0x4cf5add4ff8a8d1cb9a768a0a0e93fb9",
			"0xe20b5821cf68259d",
			"0xd2f137c0ae051b0f",
			"0x2db27f69ae656e9d",
			"0x8954c7f26699265b",
			"0x1424d4804e01a021",
		}},
		{2, 128, 3, 1, 1136, [7]string{
			"0xdc4dca38fbadecced91ee47adf53d985",
			"0x24b7a1b429f252222a3a2e7f4ae63b9d",
			"0xfb9abc6eaa824183",
			"0xe0271110736c3257",
			"0xa7bc7d9f1c56d657",
			"0x956f60b5a248218f",
			"0x3128c43f5939a133",
		}},
		{3, 128, 1<<32 - 1, 100, 2584, [7]string{
			"0xc8264e05c6c0c326d62300b8a8c502f3",
			"0x3b5b85f6ae169b569a61f06f9b8645ff",
			"0xe0a4a4384a8ce201",
			"0xe4166aaec3927cf3",
			"0xc463683e825b99ff",
			"0x303c705219bcff63",
			"0xd6ea7d2209630d12",
		}},
		{4, 256, 65537, 5, 1264, [7]string{
			"0xc9875feefed53477215c90327a536128a30593c0978b07552db51cf49b12a4cf",
			"0x5b6706dfc2bcb85affca97ac0d471bdd1f0745d2f4d27e462d190be7acd91021",
			"0xca49d9e19e7771c76ca0bc81fb193f6d",
			"0xff09e2eaa0f9835bb410680545f303ab",
			"0x9b9284709210c67e5aba9b7f537fad59",
			"0xf43a5c71c15b8f5e36edeb1ef9a040e7",
			"0x308a0bfb2bad892aa52e6a577c82fcf9",
		}},
		{5, 256, 1<<32 - 1, 1, 3040, [7]string{
			"0xc49d91b2cb56e70386a0cd6bd09c160eda59309c8af5d4c3909afe295d981e67",
			"0x10d18a6ee7700cc2606aef4026174eeb9dad1ae3fa07de25501c79100f521f7",
			"0xf8a3e5a17798ba1289e5570e6e261ae3",
			"0xca6f72bd46bbadfe9500fa44d48bb1ad",
			"0x495da6f2da7a663252477790814a4b5",
			"0x33e5d41b1db65d16bf98280b6aef4a1b",
			"0x4f6b137d5e3cca2560587647d76b6b9c",
		}},
		{6, 384, 3, 20, 5496, [7]string{
			"0xd5035e9f9b0308d10098154f3c8fcfab27a58281dc10841c55b88f00934b98226f1cf77abd2e06fddd932f69d805e3ff",
			"0x23808fc5448081782ac4038d34c2a29c869b95c04f5816046af34db0bf7aa6d1219235ae48d341c6f219f1d6dea8de67",
			"0xf92405b7a29ff6f1af72e8814ddc317e80abbdd878219af5",
			"0xdae0b72473cbb849f63ccce3ba5e4ad5b04bc68827ef12a3",
			"0xa61803cfc1bff9f674f745ab893d765455c7d3e5a56bbca3",
			"0x91eb24c2f7dd2586a4288897d19431e3cadd2f056ff4b717",
			"0xa13989b1b1c94e1d4a2a33a94fb609d5816e44354f74d574",
		}},
		{7, 512, 17, 3, 5952, [7]string{
			"0xd6dde6507ccc07bbda6e8223d6f32581b637a9e19cbd1d02b5e98a69f144525dcb230d88e318ea745d9e7fea87ee79ba6dac8df0bca1ae967c01499a6379a259",
			"0x19474845b4543d2528c1b4f52858d73c6fca5038a9073096e83997d03a808228efb5d3c3728f7ea57a2f3017ddc51002ea766f52fb8c76fab5c1228793ba961",
			"0xf5fbb636bf60c4e3e78bebd5ba554fb37a4c2e4f101c853c4fd4de2816f788b1",
			"0xdf9dcf54d5f47111e7817b49f08e21ee2a71ad60525b36072342c5f1e4d01e29",
			"0x65498743b836e7a9231b7f39e3504dfe9bc50402700bbe6420df2e4cbe29b0c1",
			"0x838a017d328fca0a882e0c499c8fd7b94624c056c7087a2250fa1a15d1e3d581",
			"0x31fcf85c9e987bef6e0e7ef8dbbe8a51eb53f57a821218535e8b4d0269b6c2cd",
		}},
	}
}

// keyOf is a sample's key.
func keyOf(t *testing.T, c sample) api.Key {
	t.Helper()
	k := api.Key{E: c.e}
	for i, x := range numbersOf(&k) {
		// N and D have the modulus's words, the others a half's.
		length := c.width / 64
		if i > 1 {
			length /= 2
		}
		y, e := nat.Resize(shown(t, c.key[i]), length)
		if e != api.OK {
			t.Fatalf("%s doesn't fit", c.key[i])
		}
		*x = y
	}
	return k
}

// P20.1 and P20.2 in numbers reckoned elsewhere.
func TestSamples(t *testing.T) {
	for _, c := range samples() {
		want := keyOf(t, c)
		laid := mixed(c.start, c.read+100)
		s := script.New(laid)
		if k, e := keygen.Generate(s, c.width, c.e, c.rounds); e != api.OK || !sameKeys(k, want) {
			t.Errorf("from %d on: %x, error %d, not %x", c.start, k, e, want)
		}
		leaves(t, s, laid, 100)
		askPair(t, laid, c.width, c.e, c.rounds, made{p: want.P, q: want.Q, left: 100})
		askPair(t, laid[:c.read], c.width, c.e, c.rounds, made{p: want.P, q: want.Q})
		askPair(t, laid[:c.read-1], c.width, c.e, c.rounds, made{e: api.ErrSpent})
	}
}

// twoBases is the number 2 as many times as is asked for, in the length of x.
func twoBases(x api.Nat, many int) []api.Nat {
	two := make(api.Nat, len(x))
	two[0] = 2
	return slices.Repeat([]api.Nat{two}, many)
}

// bare is x without the bits that are made 1: the two highest and the lowest.
func bare(x api.Nat) api.Nat {
	x = slices.Clone(x)
	x[len(x)-1] &= 1<<62 - 1
	x[0] &^= 1
	return x
}

// P20.1 to P20.3 with the least moduli, with exponents from 3 to 2^32 - 1 and rounds from 1 to 100, p coming again ahead of q.
func TestAtLimits(t *testing.T) {
	for _, both := range [][2]api.Nat{
		{ones(64, 59), threes(64, 0x11)}, {threes(128, 1001), ones(128, 173)}, {ones(192, 1403), threes(192, 1055)},
	} {
		p, q := both[0], both[1]
		width := 128 * len(p)
		for _, e := range []uint64{3, 65537, 1<<32 - 1} {
			for _, rounds := range []int{1, 2, 100} {
				bases := twoBases(p, rounds)
				laid := bytesOf(t, slices.Concat([]api.Nat{bare(p)}, bases, []api.Nat{p}, bases, []api.Nat{bare(q)}, bases)...)
				askPair(t, laid, width, e, rounds, made{p: p, q: q})
				askPair(t, append(laid, 9), width, e, rounds, made{p: p, q: q, left: 1})
				askPair(t, laid[:len(laid)-1], width, e, rounds, made{e: api.ErrSpent})
				k, wrong := keygen.Generate(script.New(laid), width, e, rounds)
				if wrong != api.OK {
					t.Fatalf("Generate of %d bits, e %d, %d rounds: error %d", width, e, rounds, wrong)
				}
				askFormed(t, k, width)
			}
		}
	}
}

// P20.1 to P20.3 with the greatest moduli, of 8064 and 8192 bits.
func TestGreatest(t *testing.T) {
	for _, c := range []struct {
		p, q api.Nat
		e    uint64
	}{
		{ones(4032, 15509), threes(4032, 10301), 3},
		{ones(4096, 2549), threes(4096, 14855), 65537},
		{threes(4096, 14855), ones(4096, 2549), 1<<32 - 1},
	} {
		width := 128 * len(c.p)
		base := twoBases(c.p, 1)[0]
		laid := behind(bytesOf(t, bare(c.p), base, c.q, base), words(7))
		s := script.New(laid)
		k, wrong := keygen.Generate(s, width, c.e, 1)
		if wrong != api.OK || !slices.Equal(k.P, c.p) || !slices.Equal(k.Q, c.q) || k.E != c.e {
			t.Fatalf("of %d bits: %x, error %d", width, k, wrong)
		}
		leaves(t, s, laid, 8)
		askFormed(t, k, width)
	}
	// p again, and no more.
	p := ones(4096, 2549)
	laid := bytesOf(t, p, twoBases(p, 1)[0], p, twoBases(p, 1)[0])
	s := script.New(laid)
	if p, q, wrong := keygen.Pair(s, 8192, 3, 1); wrong != api.ErrSpent || len(p) != 0 || len(q) != 0 {
		t.Errorf("%x and %x, error %d", p, q, wrong)
	}
	leaves(t, s, laid, 0)
}

// askFormed asks what P20.3 says of a key of so many bits, but for the bases.
func askFormed(t *testing.T, k api.Key, width int) {
	t.Helper()
	if nat.Bits(k.N) != width || len(k.N) != width/64 || len(k.D) != width/64 {
		t.Errorf("N has %d bits, not %d, in %d words, D has %d", nat.Bits(k.N), width, len(k.N), len(k.D))
	}
	for i, x := range numbersOf(&k)[2:] {
		if len(*x) != width/128 {
			t.Errorf("number %d behind D has %d words of %d bits", i, len(*x), width)
		}
	}
	for _, x := range []api.Nat{k.P, k.Q} {
		if nat.Bits(x) != width/2 || nat.Bit(x, width/2-2) != 1 || nat.Bit(x, 0) != 1 {
			t.Errorf("%x isn't of %d bits, the highest two and the lowest being 1", x, width/2)
		}
	}
	if slices.Equal(k.P, k.Q) {
		t.Errorf("P and Q are %x", k.P)
	}
	if e := key.Check(k); e != api.OK {
		t.Errorf("Check: %d", e)
	}
}

// P20.3: with each script there is a key of just the size, whose halves are strong probable primes to every base that was drawn.
func TestWellFormed(t *testing.T) {
	for start := range uint32(30) {
		for _, width := range []int{128, 256, 384, 512} {
			if width > 256 && start > 5 {
				continue
			}
			e, rounds := []uint64{3, 17, 65537, 1<<32 - 1}[start%4], []int{1, 2, 5, 20}[start/4%4]
			laid := mixed(300+start, 50000)
			s := script.New(laid)
			k, wrong := keygen.Generate(s, width, e, rounds)
			if wrong != api.OK || k.E != e {
				t.Fatalf("of %d bits, e %d, %d rounds: %x, error %d", width, e, rounds, k, wrong)
			}
			askFormed(t, k, width)
			list := drawsOf(laid[:len(laid)-s.Left()], width/2, e, rounds)
			if len(list) < 2 || !slices.Equal(list[0].x, k.P) || !slices.Equal(list[len(list)-1].x, k.Q) {
				t.Fatalf("of %d bits the script has %x, not %x and %x", width, list, k.P, k.Q)
			}
			for _, c := range list {
				askBases(t, c, rounds)
			}
		}
	}
}

// askBases asks that a number passes with every base, and that there are as many as were asked for.
func askBases(t *testing.T, c drawn, rounds int) {
	t.Helper()
	if len(c.bases) != rounds {
		t.Errorf("%d bases, not %d", len(c.bases), rounds)
	}
	for _, base := range c.bases {
		if is, e := miller.Strong(c.x, base); !is || e != api.OK {
			t.Errorf("%x doesn't pass with %x, error %d", c.x, base, e)
		}
		if len(c.x) == 1 && !plainStrong(c.x[0], base[0]) {
			t.Errorf("by the words of chapter 17 %x doesn't pass with %x", c.x, base)
		}
	}
}

// P20.3: with many rounds the halves are primes.
func TestPrimes(t *testing.T) {
	s := script.New(mixed(50, 200000))
	for range 40 {
		k, e := keygen.Generate(s, 128, 3, 20)
		if e != api.OK {
			t.Fatalf("error %d", e)
		}
		askFormed(t, k, 128)
		for _, x := range []uint64{k.P[0], k.Q[0]} {
			if !isPrime(x) || x%3 != 2 {
				t.Errorf("%d is no prime that 3 may go with", x)
			}
		}
	}
}

// P20.1: of two products that passed and have a prime together there is no key; what is behind the pair is left.
func TestNoKey(t *testing.T) {
	rest := words(first, 2, 7)
	for _, c := range []struct {
		laid []byte
		p, q uint64
		is   api.Errno
	}{
		{words(common, liarCommon, other, liarOther), common, other, api.ErrKey},
		{words(other, liarOther, common, liarCommon), other, common, api.ErrKey},
		{words(common, liarCommon, common, liarCommon, other, liarOther), common, other, api.ErrKey},
		// Products that have none together are a key's, and so is one with a prime.
		{words(common, liarCommon, alone, liarAlone), common, alone, api.OK},
		{words(alone, liarAlone, other, liarOther), alone, other, api.OK},
		{words(common, liarCommon, first, 2), common, first, api.OK},
		{words(first, 2, other, liarOther), first, other, api.OK},
	} {
		for _, e := range []uint64{5, 65537} {
			laid := behind(c.laid, rest)
			askPair(t, laid, 128, e, 1, pairOf(c.p, c.q, len(rest)))
			s := script.New(laid)
			k, wrong := keygen.Generate(s, 128, e, 1)
			if wrong != c.is || c.is != api.OK && !sameKeys(k, api.Key{}) {
				t.Errorf("of %x and %x: %x, error %d, not %d", c.p, c.q, k, wrong, c.is)
			}
			if c.is == api.OK {
				askFormed(t, k, 128)
			}
			leaves(t, s, laid, len(rest))
		}
	}
	// With as many rounds as may be, all with a liar.
	liars := slices.Repeat([]uint64{liarCommon}, 100)
	more := slices.Repeat([]uint64{liarOther}, 100)
	laid := behind(words(common), words(liars...), words(other), words(more...), rest)
	askPair(t, laid, 128, 65537, 100, pairOf(common, other, len(rest)))
	if k, wrong := keygen.Generate(script.New(laid), 128, 65537, 100); wrong != api.ErrKey || !sameKeys(k, api.Key{}) {
		t.Errorf("%x, error %d, not %d", k, wrong, api.ErrKey)
	}
}

// P20.1: keys that are made one behind the other on one script are those of the pairs that are.
func TestKeysGoOn(t *testing.T) {
	s, same := script.New(mixed(60, 30000)), script.New(mixed(60, 30000))
	many := 0
	for {
		k, wrong := keygen.Generate(s, 128, 65537, 3)
		p, q, is := keygen.Pair(same, 128, 65537, 3)
		if wrong != is || s.Left() != same.Left() {
			t.Fatalf("error %d, not %d, %d bytes are left, not %d", wrong, is, s.Left(), same.Left())
		}
		if wrong != api.OK {
			break
		}
		if want, _ := key.Of(p, q, 65537); !sameKeys(k, want) {
			t.Errorf("%x, not %x", k, want)
		}
		many++
	}
	if many < 10 || s.Left() != 0 {
		t.Errorf("%d keys, %d bytes are left", many, s.Left())
	}
}

// P2: a number of a key that is changed, with what lies behind it, changes no other number, not the script and no later answer.
func TestKeysApart(t *testing.T) {
	for _, c := range samples() {
		want := keyOf(t, c)
		laid := mixed(c.start, 2*c.read)
		var none api.Key
		for place := range numbersOf(&none) {
			s, same := script.New(laid), script.New(laid)
			k, e := keygen.Generate(s, c.width, c.e, c.rounds)
			if e != api.OK || !sameKeys(k, want) {
				t.Fatalf("%x, error %d, not %x", k, e, want)
			}
			earlier, _ := keygen.Generate(same, c.width, c.e, c.rounds)
			spoil(*numbersOf(&k)[place])
			*numbersOf(&k)[place] = *numbersOf(&want)[place]
			if !sameKeys(k, want) || !sameKeys(earlier, want) {
				t.Errorf("number %d shares memory with another one", place)
			}
			later, e := keygen.Generate(s, c.width, c.e, c.rounds)
			again, is := keygen.Generate(same, c.width, c.e, c.rounds)
			if e != is || !sameKeys(later, again) || s.Left() != same.Left() || !slices.Equal(laid, mixed(c.start, 2*c.read)) {
				t.Errorf("number %d shares memory with the script", place)
			}
		}
	}
}
