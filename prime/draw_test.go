package prime_test

import (
	"bytes"
	"math"
	"slices"
	"testing"

	"sconce/api"
	"sconce/prime"
	"sconce/script"
)

var (
	wrongExponents = []uint64{0, 1, 2, 4, 6, 65536, 1 << 32, 1 << 63, top - 1}
	wrongRounds    = []int{math.MinInt, math.MinInt32, -100, -1, 0, 101, 102, 1000, math.MaxInt32, 1 << 32, 1<<32 + 1, math.MaxInt}
)

// nobodys are scripts that no call has made.
func nobodys() []*script.Script { return []*script.Script{nil, {}} }

// askDrawn asks what Draw tells, words and all, and how many bytes are left behind it.
func askDrawn(t *testing.T, s *script.Script, width int, e uint64, rounds int, want drawn) {
	t.Helper()
	p, many, wrong := prime.Draw(s, width, e, rounds)
	got := drawn{p, many, wrong, s.Left()}
	if got.many != want.many || got.e != want.e || got.left != want.left || !slices.Equal(got.p, want.p) {
		t.Errorf("Draw of %d bits, e %d, %d rounds: %x, not %x", width, e, rounds, got, want)
	}
}

// askDraw asks the same of a script of bytes, of which the last ones have to be left.
func askDraw(t *testing.T, laid []byte, width int, e uint64, rounds int, want drawn) {
	t.Helper()
	s := script.New(laid)
	askDrawn(t, s, width, e, rounds, want)
	if left, _ := s.Read(s.Left()); !bytes.Equal(left, laid[len(laid)-want.left:]) {
		t.Errorf("Draw of %d bits, e %d, %d rounds leaves %x", width, e, rounds, left)
	}
}

// P18.3 in numbers written out. From 0xc000 on the primes are c005, c011, c013, c019, c029, c02f; c004 is 4 times 12289, c012 is 2 3 5 11 149.
func TestDraw(t *testing.T) {
	for _, c := range []struct {
		laid          []byte
		e             uint64
		rounds        int
		p             uint64
		many, howLeft int
	}{
		// The first candidate is it.
		{[]byte{0, 4, 0, 2}, 3, 1, 0xc005, 1, 0},
		{[]byte{0, 5, 0, 2, 9}, 3, 1, 0xc005, 1, 1},
		{[]byte{0xc0, 5, 0, 2, 9, 9}, 65537, 1, 0xc005, 1, 2},
		{[]byte{0, 4, 0, 2, 0, 3, 0, 5}, 3, 3, 0xc005, 1, 0},
		{[]byte{0, 4, 0, 2, 0, 2, 0, 5}, 3, 2, 0xc005, 1, 2},
		{[]byte{0xff, 0xf1, 0, 2, 0, 5}, 11, 1, 0xfff1, 1, 2},
		// A later one is it: ahead of it go such that a small prime divides, and for which no base is read.
		{[]byte{0, 0, 0, 4, 0, 2, 1, 1}, 65537, 1, 0xc005, 2, 2},
		{[]byte{0, 0, 0, 2, 0, 6, 0, 8, 0, 10, 0, 12, 0, 14, 0, 16, 0, 7, 8}, 5, 1, 0xc011, 8, 1},
		{[]byte{0, 0, 0, 0, 0, 0, 0, 4, 0, 3}, 3, 1, 0xc005, 4, 0},
		// Primes that have a divisor together with e, less 1, need no base, either.
		{[]byte{0, 4, 0, 16, 0, 2, 1}, 12289, 1, 0xc011, 2, 1},
		{[]byte{0, 18, 0, 24, 0, 48, 0, 40, 0, 2, 1}, 3, 1, 0xc029, 4, 1},
		{[]byte{0, 18, 0, 24, 0, 2, 1}, 55, 1, 0xc019, 2, 1},
		{[]byte{0, 18, 0, 24, 0, 48, 0, 4, 0, 2, 1}, 3 * 5, 1, 0xc005, 4, 1},
		{[]byte{0xff, 0xf1, 0, 4, 0, 2, 1}, top, 1, 0xc005, 2, 1},
		// Bases of 0, 1, p - 1, p and above are passed over.
		{[]byte{0, 4, 0, 0, 0, 1, 0xc0, 4, 0xc0, 5, 0xff, 0xff, 0xc0, 3, 7}, 3, 1, 0xc005, 1, 1},
		{[]byte{0, 4, 0, 2, 0xc0, 4, 0, 3, 0, 1, 0, 2, 7}, 3, 3, 0xc005, 1, 1},
	} {
		askDraw(t, c.laid, 16, c.e, c.rounds, drawn{p: api.Nat{c.p}, many: c.many, left: c.howLeft})
	}
}

// P18.3: 0xf88e1 is 1009 times 1009, so it is Good with 11; 990 and 1295 let it pass, 2 finds it out. 0xc0001 is 786433, a prime.
func TestDrawOfProducts(t *testing.T) {
	product := []byte{0xf, 0x88, 0xe1}
	one, other, finds := []byte{0, 3, 0xde}, []byte{0, 5, 0xf}, []byte{0, 0, 2}
	found := []byte{0, 0, 0}
	for _, c := range []struct {
		laid    [][]byte
		rounds  int
		p       uint64
		many    int
		howLeft int
	}{
		{[][]byte{product, one, finds}, 1, 1009 * 1009, 1, 3},
		{[][]byte{product, other, finds}, 1, 1009 * 1009, 1, 3},
		{[][]byte{product, one, other, one, finds}, 3, 1009 * 1009, 1, 3},
		{[][]byte{product, finds, found, one, other}, 1, 0xc0001, 2, 3},
		{[][]byte{product, one, finds, found, one, other}, 2, 0xc0001, 2, 0},
		// The base that finds it out is the last one that is read for it, however many rounds there are.
		{[][]byte{product, finds, found, one, other, one, finds, product}, 4, 0xc0001, 2, 3},
		{[][]byte{product, one, other, finds, product, finds, product, other, finds, found, one, other, finds, finds, one}, 4, 0xc0001, 4, 3},
		// One of another kind goes between: 3 divides it.
		{[][]byte{product, one, finds, {0, 0, 2}, product, one, one, one}, 2, 1009 * 1009, 3, 3},
		{[][]byte{product, found, found, product, one, finds}, 1, 1009 * 1009, 1, 3},
	} {
		askDraw(t, slices.Concat(c.laid...), 20, 11, c.rounds, drawn{p: api.Nat{c.p}, many: c.many, left: c.howLeft})
	}
	// Less 1 it has 3, 5, 7 and 101 in it, so that no base is asked with these.
	for _, e := range []uint64{3, 5, 7, 101, 3 * 11, 101 * 65537} {
		askDraw(t, append(slices.Concat(product, []byte{0, 0, 0x10}, one), 1), 20, e, 1, drawn{p: api.Nat{0xc0011}, many: 2, left: 1})
	}
}

// P18.3: bits, e and rounds that may not be are told whatever the script is, each alone and several at once, and not a byte is read.
func TestDrawOfWrongArguments(t *testing.T) {
	laid := bytes.Repeat([]byte{0, 4, 0, 2}, 300)
	ask := func(width int, e uint64, rounds int) {
		t.Helper()
		askDraw(t, laid, width, e, rounds, drawn{e: api.ErrRange, left: len(laid)})
		askDraw(t, nil, width, e, rounds, drawn{e: api.ErrRange})
		for _, s := range nobodys() {
			askDrawn(t, s, width, e, rounds, drawn{e: api.ErrRange})
		}
	}
	for _, width := range wrongWidths {
		ask(width, 3, 1)
		ask(width, 65537, 100)
		for _, e := range wrongExponents {
			ask(width, e, 1)
		}
		for _, rounds := range wrongRounds {
			ask(width, 3, rounds)
			ask(width, 4, rounds)
		}
	}
	for _, width := range []int{16, 17, 64, 4095, 4096} {
		for _, e := range wrongExponents {
			ask(width, e, 1)
			ask(width, e, 100)
			for _, rounds := range wrongRounds {
				ask(width, e, rounds)
			}
		}
		for _, rounds := range wrongRounds {
			ask(width, 3, rounds)
			ask(width, top, rounds)
		}
	}
}

// P18.3: just inside the limits there is an answer, or bytes run out.
func TestDrawAtLimits(t *testing.T) {
	for _, e := range []uint64{3, 5, 65537, 1<<32 + 1, 1<<63 + 1, top - 2, top} {
		for _, rounds := range []int{1, 2, 99, 100} {
			laid := append([]byte{0, 4}, bytes.Repeat([]byte{0, 2}, 101)...)
			askDraw(t, laid, 16, e, rounds, drawn{p: api.Nat{0xc005}, many: 1, left: len(laid) - 2 - 2*rounds})
			askDraw(t, laid[:2+2*rounds], 16, e, rounds, drawn{p: api.Nat{0xc005}, many: 1})
			askDraw(t, laid[:1+2*rounds], 16, e, rounds, drawn{e: api.ErrSpent})
			askDraw(t, make([]byte, 511), 4096, e, rounds, drawn{e: api.ErrSpent})
			for _, width := range widths {
				askDraw(t, nil, width, e, rounds, drawn{e: api.ErrSpent})
			}
		}
	}
}

// P18.3 with scripts without bytes.
func TestDrawWithoutBytes(t *testing.T) {
	for _, width := range widths {
		for _, s := range append(nobodys(), script.New(nil), script.New([]byte{}), script.New([]byte{2, 3}[:0])) {
			for range 2 {
				askDrawn(t, s, width, 3, 1, drawn{e: api.ErrSpent})
				askDrawn(t, s, width, 65537, 100, drawn{e: api.ErrSpent})
			}
		}
	}
}

// P18.3: bytes run out ahead of the first candidate, within one, between a candidate and its first base, within a base, between bases and between candidates; with a byte more all is there.
func TestDrawSpent(t *testing.T) {
	for _, c := range []struct {
		laid   []byte
		width  int
		rounds int
		p      uint64
		many   int
	}{
		{[]byte{0, 4, 0, 2}, 16, 1, 0xc005, 1},
		{[]byte{0, 0, 0, 2, 0, 18, 0, 6, 0, 4, 0, 0, 0, 2, 0, 1, 0, 3, 0, 5}, 16, 3, 0xc005, 5},
		{[]byte{0xf, 0x88, 0xe1, 0, 3, 0xde, 0, 0, 2, 0, 0, 2, 0xf, 0x88, 0xe1, 0, 0, 0, 0, 0, 3, 0, 0, 0x10, 0, 5, 0xf, 0, 0, 2}, 20, 2, 0xc0011, 4},
	} {
		for size := range c.laid {
			askDraw(t, c.laid[:size], c.width, 11, c.rounds, drawn{e: api.ErrSpent})
		}
		for more := range 10 {
			laid := append(slices.Clone(c.laid), make([]byte, more)...)
			askDraw(t, laid, c.width, 11, c.rounds, drawn{p: api.Nat{c.p}, many: c.many, left: more})
		}
	}
}

// P18.3: noughts and ones tell the same candidate again and again, and bytes run out first.
func TestDrawOfOneByte(t *testing.T) {
	for _, width := range []int{16, 20, 24, 64, 65, 128, 1024, 4096} {
		for _, many := range []int{1, 2, 100, 1000} {
			for _, b := range []byte{0, 255} {
				for _, more := range []int{-1, 0, 1} {
					laid := bytes.Repeat([]byte{b}, many*sizeOf(width)+more)
					askDraw(t, laid, width, 65537, 1, drawn{e: api.ErrSpent})
				}
			}
		}
	}
	// 3 2^30 + 1 is a prime, and so is 2^61 - 1, but no base comes of noughts or ones.
	for _, rounds := range []int{1, 100} {
		askDraw(t, make([]byte, 4000), 32, 5, rounds, drawn{e: api.ErrSpent})
		askDraw(t, bytes.Repeat([]byte{255}, 8000), 61, 65537, rounds, drawn{e: api.ErrSpent})
	}
}

// P18.3: behind 100,000 candidates there is ErrDraws, and what is behind them is left; one less may still be spent.
func TestTooManyDraws(t *testing.T) {
	const most = 100000
	for _, b := range []byte{0, 255} {
		laid := bytes.Repeat([]byte{b}, 2*most+1000)
		for _, more := range []int{0, 1, 2, 3, 1000} {
			askDraw(t, laid[:2*most+more], 16, 3, 1, drawn{e: api.ErrDraws, left: more})
		}
		for _, fewer := range []int{1, 2, 3} {
			askDraw(t, laid[:2*most-fewer], 16, 3, 1, drawn{e: api.ErrSpent})
		}
	}
	laid := make([]byte, 3*most+30)
	askDraw(t, laid, 24, 65537, 100, drawn{e: api.ErrDraws, left: 30})
	laid = bytes.Repeat([]byte{255}, 17*most+30)
	askDraw(t, laid, 129, 65537, 100, drawn{e: api.ErrDraws, left: 30})
}

// P18.3: the last candidate that may be is it, or the one behind it, which isn't drawn.
func TestLastDraw(t *testing.T) {
	const most = 100000
	behind := []byte{0, 4, 0, 2, 0, 3, 7, 7}
	ahead := func(many int) []byte { return append(make([]byte, 2*many), behind...) }
	p := api.Nat{0xc005}
	askDraw(t, ahead(most-2), 16, 3, 2, drawn{p: p, many: most - 1, left: 2})
	askDraw(t, ahead(most-1), 16, 3, 2, drawn{p: p, many: most, left: 2})
	askDraw(t, ahead(most), 16, 3, 2, drawn{e: api.ErrDraws, left: 8})
	askDraw(t, ahead(most+1), 16, 3, 2, drawn{e: api.ErrDraws, left: 10})
	// The last one may be, but there are too few bytes for its bases.
	for fewer := 3; fewer <= 6; fewer++ {
		laid := ahead(most - 1)
		askDraw(t, laid[:len(laid)-fewer], 16, 3, 2, drawn{e: api.ErrSpent})
	}
	// A prime that has a divisor together with e counts as one, too.
	askDraw(t, append(bytes.Repeat([]byte{0, 4}, most), behind...), 16, 12289, 1, drawn{e: api.ErrDraws, left: 8})
}

// P18.3: bases count for no candidates, whatever they find out.
func TestTooManyDrawsWithBases(t *testing.T) {
	const most = 100000
	// A candidate that is Good, and a base that finds it out.
	laid := bytes.Repeat([]byte{0xf, 0x88, 0xe1, 0, 0, 2}, most)
	behind := []byte{0, 0, 0, 0, 0, 2, 0, 0, 3, 1}
	askDraw(t, append(laid, behind...), 20, 11, 2, drawn{e: api.ErrDraws, left: 10})
	askDraw(t, append(laid[6:], behind...), 20, 11, 2, drawn{p: api.Nat{0xc0001}, many: most, left: 1})
}

// P18.3 and P18.4 against the chapter's words: scripts of all lengths, with candidates of one, two and three words.
func TestDrawAsPlain(t *testing.T) {
	next := spread(7)
	ends := map[api.Errno]int{}
	ask := func(size, width int, e uint64, rounds int) {
		t.Helper()
		laid := someBytes(next, size)
		want := plainDraw(laid, width, e, rounds)
		askDraw(t, laid, width, e, rounds, want)
		ends[want.e]++
	}
	odd := func() uint64 { return next()>>(next()>>8%62) | 3 }
	for range 60 {
		for width := 15; width <= 40; width++ {
			ask(int(next()>>8%300), width, odd(), int(next()>>8%4)+1)
		}
	}
	for _, width := range []int{63, 64, 65, 100, 127, 128, 129} {
		for range 4 {
			ask(int(next()>>8%3000), width, odd(), int(next()>>8%3)+1)
		}
		ask(20000, width, 65537, 5)
	}
	if ends[api.OK] < 300 || ends[api.ErrSpent] < 100 || ends[api.ErrRange] == 0 {
		t.Errorf("of one kind there are few: %d", ends)
	}
}

// P18.3 and P18.4 of numbers of which many are Good and no primes: out of few bytes products of two primes above 1000 come again and again.
func TestDrawOfProductsAsPlain(t *testing.T) {
	products := []uint64{1009 * 1009, 1009 * 1013, 1013 * 1013, 1009 * 1019, 1009 * 1021, 1013 * 1019, 1019 * 1021, 1021 * 1021, 1009 * 1039, 0xc0001, 0xc0003}
	next := spread(8)
	many := 0
	for range 400 {
		var laid []byte
		for range next() >> 8 % 40 {
			w := products[next()>>8%uint64(len(products))]
			if next()>>8%3 == 0 {
				w = next() >> 44
			}
			laid = append(laid, inBytes(api.Nat{w}, 3)...)
		}
		for _, e := range []uint64{3, 11, 65537} {
			rounds := int(next()>>8%3) + 1
			want := plainDraw(laid, 20, e, rounds)
			askDraw(t, laid, 20, e, rounds, want)
			many = max(many, want.many)
		}
	}
	if many < 3 {
		t.Errorf("at most %d candidates were drawn", many)
	}
}

// P18.4: what is answered has just so many bits, its two highest and its lowest are 1, and it is Good; by all rounds it is a prime.
func TestOfTheSize(t *testing.T) {
	next := spread(9)
	for _, c := range []struct {
		width int
		e     uint64
	}{{16, 3}, {17, 3}, {20, 5}, {23, 65537}, {24, 7}, {25, 3}, {31, 3}, {32, 17}, {33, 3}, {40, 3}, {63, 3}, {64, 65537}, {65, 3}, {66, 3}, {127, 3}, {128, 65537}, {129, 3}, {192, 3}, {256, top}, {512, 65537}} {
		s := script.New(someBytes(next, 100000))
		for range 3 {
			p, many, e := prime.Draw(s, c.width, c.e, 20)
			if e != api.OK || many < 1 || len(p) != (c.width+63)/64 || widthOf(p) != c.width || bitOf(p, c.width-2) != 1 || bitOf(p, 0) != 1 {
				t.Fatalf("of %d bits: %x, %d candidates, error %d", c.width, p, many, e)
			}
			if !prime.Good(p, c.e) || !plainGood(p, c.e, smallPrimes()) {
				t.Errorf("%x isn't Good with %d", p, c.e)
			}
			if c.width <= 33 && !isPrime(p[0]) {
				t.Errorf("%d is no prime", p[0])
			}
		}
	}
}

// known is a prime with an e that has nothing together with it less 1, and a divisor of that (0: none is known).
type known struct {
	width      int
	p          api.Nat
	e, divides uint64
}

func greatPrimes() []known {
	return []known{
		{61, ones(61, 1), 65537, 3}, {63, ones(63, 25), 5, 17}, {64, ones(64, 59), 3, 11}, {65, ones(65, 49), 5, 3},
		{127, ones(127, 1), 5, 7}, {128, ones(128, 159), 5, 3}, {129, ones(129, 25), 5, 3}, {191, threes(191, 1), 5, 3}, {521, ones(521, 1), 7, 3},
		{1024, ones(1024, 105), 65537, 5}, {1024, threes(1024, 1037), 3, 0}, {2048, ones(2048, 1557), 5, 7},
		{4095, ones(4095, 1615), 65537, 11}, {4095, threes(4095, 3451), 5, 3}, {4096, ones(4096, 2549), 3, 7}, {4096, threes(4096, 3389), 3, 5},
	}
}

// P18.3 of great numbers: known primes, ahead of which go products; what is cut off stands at the top.
func TestDrawOfGreatPrimes(t *testing.T) {
	for _, c := range greatPrimes() {
		size := sizeOf(c.width)
		bare := inBytes(c.p, size)
		// Bits above don't count, nor do the three that are made 1.
		bare[0] |= byte(0xff << ((c.width-1)%8 + 1))
		bare[size-1] &^= 1
		bare[(8*size-c.width)/8] &^= 1 << ((c.width - 1) % 8)
		// It is 3 times 2^(bits - 2), and 3.
		product := inBytes(threes(c.width, 3), size)
		base, nought, last := inBytes(api.Nat{2}, size), make([]byte, size), inBytes(less(c.p, 1), size)
		laid := slices.Concat(product, product, bare, nought, last, base, []byte{1, 2, 3})
		askDraw(t, laid, c.width, c.e, 1, drawn{p: c.p, many: 3, left: 3})
		askDraw(t, laid[:len(laid)-4], c.width, c.e, 1, drawn{e: api.ErrSpent})
		askDraw(t, laid, c.width, c.e, 2, drawn{e: api.ErrSpent})
		if c.divides > 0 {
			// It is passed over without a base, and so what would be its base is the next candidate.
			laid = slices.Concat(bare, bare, bare[:size-1])
			askDraw(t, laid, c.width, c.divides, 1, drawn{e: api.ErrSpent})
			askDraw(t, laid[:2*size], c.width, c.divides*c.e, 1, drawn{e: api.ErrSpent})
		}
	}
}

// P18.3: calls on one script go on where it stands, also behind errors.
func TestDrawsGoOn(t *testing.T) {
	s := script.New([]byte{0, 4, 0, 2, 0, 4, 0, 16, 0, 3, 0, 0, 0, 4, 0, 7, 0, 0, 0x10, 0, 0, 2, 9, 0, 4})
	askDrawn(t, s, 16, 3, 1, drawn{p: api.Nat{0xc005}, many: 1, left: 21})
	askDrawn(t, s, 16, 4, 1, drawn{e: api.ErrRange, left: 21})
	askDrawn(t, s, 16, 12289, 1, drawn{p: api.Nat{0xc011}, many: 2, left: 15})
	askDrawn(t, s, 15, 3, 1, drawn{e: api.ErrRange, left: 15})
	askDrawn(t, s, 16, 3, 1, drawn{p: api.Nat{0xc005}, many: 2, left: 9})
	askDrawn(t, s, 16, 3, 101, drawn{e: api.ErrRange, left: 9})
	askDrawn(t, s, 20, 3, 1, drawn{p: api.Nat{0xc0011}, many: 1, left: 3})
	if b, _ := s.Read(1); !bytes.Equal(b, []byte{9}) {
		t.Errorf("the next byte is %d", b)
	}
	askDrawn(t, s, 16, 3, 1, drawn{e: api.ErrSpent})
	askDrawn(t, s, 16, 3, 1, drawn{e: api.ErrSpent})
	askDrawn(t, s, 16, 3, 0, drawn{e: api.ErrRange})
}

// P2: an answer is new memory: whoever changes one, or what lies behind it, changes no later answer, no earlier one, and not the script.
func TestDrawsApart(t *testing.T) {
	for _, c := range []struct {
		width int
		p     api.Nat
	}{{16, api.Nat{0xc005}}, {63, ones(63, 25)}, {65, ones(65, 49)}, {128, ones(128, 159)}, {191, threes(191, 1)}} {
		size := sizeOf(c.width)
		one := slices.Concat(inBytes(c.p, size), inBytes(api.Nat{3}, size))
		laid := slices.Repeat(one, 4)
		s := script.New(laid)
		var told []api.Nat
		for range 3 {
			p, _, _ := prime.Draw(s, c.width, 5, 1)
			told = append(told, p)
		}
		for i, p := range told {
			p = p[:cap(p)]
			for j := range p {
				p[j] = 0x55
			}
			for _, later := range told[i+1:] {
				if !slices.Equal(later, c.p) {
					t.Fatalf("with answer %d another one is changed: %x", i, later)
				}
			}
		}
		askDrawn(t, s, c.width, 5, 1, drawn{p: c.p, many: 1})
		askDraw(t, laid, c.width, 5, 1, drawn{p: c.p, many: 1, left: 3 * len(one)})
	}
}

// P2: an answer stays as it is when others are drawn.
func TestDrawsStay(t *testing.T) {
	s := script.New([]byte{0, 4, 0, 2, 0, 16, 0, 2, 0, 40, 0, 2})
	var told []uint64
	var list []api.Nat
	for range 3 {
		p, _, _ := prime.Draw(s, 16, 3, 1)
		list = append(list, p)
	}
	for _, p := range list {
		told = append(told, p...)
	}
	if !slices.Equal(told, []uint64{0xc005, 0xc011, 0xc029}) {
		t.Errorf("%x", told)
	}
}
