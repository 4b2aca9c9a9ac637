package keygen_test

import (
	"bytes"
	"fmt"
	"math"
	"slices"
	"testing"

	"sconce/api"
	"sconce/keygen"
	"sconce/script"
)

var (
	edgeWidths    = []int{math.MinInt, math.MinInt + 128, math.MinInt32, -8192, -256, -128, -64, -1, 0, 1, 31, 32, 64, 127, 128, 129, 192, 256, 384, 8064, 8191, 8192, 8193, 8320, 1 << 32, 1<<32 + 128, math.MaxInt - 127, math.MaxInt}
	edgeExponents = []uint64{0, 1, 2, 3, 4, 5, 65536, 65537, 1<<32 - 2, 1<<32 - 1, 1 << 32, 1<<32 + 1, 1<<32 + 3, 1<<63 + 1, top - 1, top}
	edgeRounds    = []int{math.MinInt, -100, -1, 0, 1, 2, 99, 100, 101, 102, 1 << 32, 1<<32 + 1, math.MaxInt}
)

// Primes of 64 bits, which less 1 have nothing together with 2^32 - 1.
const (
	first  = uint64(3<<62 + 0x11)
	second = uint64(3<<62 + 0x4d)
	third  = uint64(top - 58)
	fourth = uint64(3<<62 + 0x65)
)

// Products of two primes, of which one is in both common and other, and none of them in alone; with a liar each passes.
const (
	common     = uint64(4294967197 * 4294967161)
	other      = uint64(4294967197 * 4294967029)
	alone      = uint64(4294967143 * 4294966981)
	liarCommon = uint64(0x8d337e48521a9182)
	liarOther  = uint64(0x5afd2554bd1eff37)
	liarAlone  = uint64(0x8effdfb7c3c25ceb)
)

// pairOf is what Pair tells of two numbers of a word.
func pairOf(p, q uint64, left int) made {
	return made{p: api.Nat{p}, q: api.Nat{q}, left: left}
}

// The chapter's example, and whatever else has no bytes.
func TestExample(t *testing.T) {
	for _, width := range []int{128, 256, 384, 8064, 8192} {
		for _, e := range []uint64{3, 65537, 1<<32 - 1} {
			askPair(t, nil, width, e, 1, made{e: api.ErrSpent})
			askPair(t, []byte{}, width, e, 100, made{e: api.ErrSpent})
			askNobodys(t, width, e, 1, api.ErrSpent)
			askNobodys(t, width, e, 100, api.ErrSpent)
		}
	}
}

// P20.2: each of the arguments at its edges, alone and all at once; what may not be reads not a byte, whatever there is.
func TestEdges(t *testing.T) {
	few := []byte{1, 2, 3, 4, 5, 6, 7}
	many := words(first, 2, second, 2, 5, 6, 7)
	refused := 0
	for _, width := range edgeWidths {
		for _, e := range edgeExponents {
			for _, rounds := range edgeRounds {
				if mayBe(width, e, rounds) {
					askPair(t, few, width, e, rounds, made{e: api.ErrSpent})
					askNobodys(t, width, e, rounds, api.ErrSpent)
					continue
				}
				refused++
				askPair(t, few, width, e, rounds, made{e: api.ErrRange, left: len(few)})
				askPair(t, many, width, e, rounds, made{e: api.ErrRange, left: len(many)})
				askNobodys(t, width, e, rounds, api.ErrRange)
			}
		}
	}
	if all := len(edgeWidths) * len(edgeExponents) * len(edgeRounds); refused != all-5*4*4 {
		t.Errorf("%d of %d are refused", refused, all)
	}
}

// P20.2: of all numbers of bits the multiples of 128 up to 8192 alone may be.
func TestEachWidth(t *testing.T) {
	laid := []byte{9, 8, 7}
	for width := -300; width < 9000; width++ {
		want := made{e: api.ErrRange, left: len(laid)}
		if width > 0 && width <= 8192 && width%128 == 0 {
			want = made{e: api.ErrSpent}
		}
		askPair(t, laid, width, 65537, 1, want)
	}
}

// P20.2: of all exponents about the edges the odd ones from 3 to below 2^32 alone may be, and of rounds those from 1 to 100.
func TestEachExponentAndRound(t *testing.T) {
	laid := []byte{9, 8, 7}
	for _, from := range []uint64{0, 65530, 1<<31 - 9, 1<<32 - 9, 1<<33 - 9, 1<<63 - 9, top - 20} {
		for e := from; e < from+20; e++ {
			want := made{e: api.ErrRange, left: len(laid)}
			if e >= 3 && e < 1<<32 && e%2 == 1 {
				want = made{e: api.ErrSpent}
			}
			askPair(t, laid, 128, e, 1, want)
		}
	}
	for rounds := -200; rounds < 300; rounds++ {
		want := made{e: api.ErrRange, left: len(laid)}
		if rounds >= 1 && rounds <= 100 {
			want = made{e: api.ErrSpent}
		}
		askPair(t, laid, 256, 3, rounds, want)
	}
}

// P20.2 in numbers written out. Of a word of bytes its two highest bits and its lowest count as 1.
func TestPair(t *testing.T) {
	const nought = uint64(0) // 3 2^62 + 1, which 13 divides
	for _, c := range []struct {
		what   string
		laid   []byte
		e      uint64
		rounds int
		want   made
	}{
		{"p is drawn ahead of q", words(first, 2, second, 3), 65537, 1, pairOf(first, second, 0)},
		{"the greater one ahead", words(third, 2, first, 3), 65537, 1, pairOf(third, first, 0)},
		{"bytes behind are left", words(first, 2, second, 3, first, 2), 3, 1, pairOf(first, second, 16)},
		{"bits that count as 1", words(0x10, 2, 1<<62+0x4c, 3), 1<<32 - 1, 1, pairOf(first, second, 0)},
		{"rounds for each", words(first, 2, 3, 4, second, 5, 6, 7, 8), 3, 3, pairOf(first, second, 8)},
		{"bases of 0, 1, p - 1 and p", words(first, 0, 1, first-1, first, top, 2, second, second-1, 3, 7), 3, 1, pairOf(first, second, 8)},
		{"such as small primes divide", words(nought, nought, first, 2, nought, second, 2, nought), 3, 1, pairOf(first, second, 8)},
		{"3 divides p - 1", words(3<<62+0x5b, first, 2, 3<<62+0x127, second, 2), 3, 1, pairOf(first, second, 0)},
		{"3 divides p - 1, with an e of 5", words(3<<62+0x5b, 2, first, 2, 3<<62+0x127, second, 2), 5, 1, pairOf(3<<62+0x5b, first, 24)},
		{"a base finds it out", words(common, 2, first, 2, other, 2, alone, 2, second, 2), 65537, 1, pairOf(first, second, 0)},
		{"a later base finds it out", words(common, liarCommon, 2, first, 2, 3, other, liarOther, 2, second, 2, 3), 65537, 2, pairOf(first, second, 0)},
		{"no base finds it out", words(common, liarCommon, second, 2, 9), 65537, 1, pairOf(common, second, 8)},
		{"nor that of q", words(first, 2, alone, liarAlone, 9), 65537, 1, pairOf(first, alone, 8)},

		{"p again", words(first, 2, first, 2, second, 2, 9), 65537, 1, pairOf(first, second, 8)},
		{"p again, out of other bytes", words(first, 2, 0x11, 3, 1<<63+0x10, 4, second, 5, 9), 65537, 1, pairOf(first, second, 8)},
		{"p again and again", words(first, 2, first, 2, first, 2, first, 2, second, 2), 65537, 1, pairOf(first, second, 0)},
		{"p, q, p", words(first, 2, second, 2, first, 2), 65537, 1, pairOf(first, second, 16)},
		{"p again, found out by a base", words(common, liarCommon, common, 2, common, liarCommon, first, 2, 9), 65537, 1, pairOf(common, first, 8)},
		{"p again, with others ahead", words(nought, first, 2, nought, common, 2, first, 2, nought, nought, second, 2, 9), 65537, 1, pairOf(first, second, 8)},
		{"the next one behind p again", words(first, 2, 3, first, 4, 5, first, 6, 7, third, 8, 9, second, 2, 3), 65537, 2, pairOf(first, third, 24)},
		{"a product again", words(common, liarCommon, common, liarCommon, other, liarOther), 65537, 1, pairOf(common, other, 0)},
	} {
		t.Run(c.what, func(t *testing.T) {
			askPair(t, c.laid, 128, c.e, c.rounds, c.want)
			if plain := plainPair(c.laid, c.e, c.rounds); !slices.Equal(plain.p, c.want.p) || !slices.Equal(plain.q, c.want.q) || plain.left != c.want.left {
				t.Errorf("by the chapter's words it is %x, not %x", plain, c.want)
			}
		})
	}
}

// P20.2: the bytes run out at each place: while p is drawn, within its bases, while q is drawn, within its bases, while it is drawn again. None are left then, and with the last byte all is there.
func TestSpent(t *testing.T) {
	for _, c := range []struct {
		laid   []byte
		width  int
		rounds int
		p, q   api.Nat
	}{
		{words(first, 2, second, 3), 128, 1, api.Nat{first}, api.Nat{second}},
		{words(0, common, 2, first, 0, 1, 2, 3, 0, first, 2, 3, common, liarCommon, 2, first, 4, first-1, 5, 0, second, 2, 3), 128, 2, api.Nat{first}, api.Nat{second}},
		{words(common, liarCommon, common, liarCommon, 0, other, liarOther), 128, 1, api.Nat{common}, api.Nat{other}},
		{bytesOf(t, ones(128, 173), api.Nat{2, 0}, threes(128, 0), ones(128, 173), api.Nat{0, 1}, threes(128, 1001), api.Nat{2, 0}), 256, 1, ones(128, 173), threes(128, 1001)},
	} {
		for size := range c.laid {
			askPair(t, c.laid[:size], c.width, 65537, c.rounds, made{e: api.ErrSpent})
		}
		for more := range 20 {
			askPair(t, behind(c.laid, mixed(1, more)), c.width, 65537, c.rounds, made{p: c.p, q: c.q, left: more})
		}
	}
	// Nothing but p comes, however often.
	for _, many := range []int{1, 2, 3, 10, 1000} {
		laid := bytes.Repeat(words(third, 2), many)
		askPair(t, laid, 128, 3, 1, made{e: api.ErrSpent})
		askPair(t, laid[:len(laid)-1], 128, 3, 1, made{e: api.ErrSpent})
		askPair(t, behind(laid, words(first, 2, 7)), 128, 3, 1, pairOf(third, first, 8))
	}
	// Noughts and ones tell no primes.
	for _, width := range []int{128, 256, 384, 8064, 8192} {
		for _, b := range []byte{0, 255} {
			askPair(t, bytes.Repeat([]byte{b}, 3000), width, 65537, 1, made{e: api.ErrSpent})
		}
	}
}

// P20.2: numbers that differ in one word alone, in the lowest or the highest, are unlike.
func TestAlmostAlike(t *testing.T) {
	low := []api.Nat{ones(128, 173), ones(128, 233), ones(128, 713)}
	high := []api.Nat{{top - 172, 3<<62 + 0xc}, {top - 172, 3<<62 + 0x1b}, {top - 172, 3<<62 + 0xa2}}
	base := api.Nat{2, 0}
	for _, list := range [][]api.Nat{low, high} {
		for _, p := range list {
			for _, q := range list {
				laid := bytesOf(t, p, base, p, base, q, base, ones(128, 173), base, threes(128, 1001), base)
				want := made{p: p, q: q, left: 64}
				if slices.Equal(p, q) {
					want = byHand(laid, 256, 1<<32-1, 1)
				}
				askPair(t, laid, 256, 1<<32-1, 1, want)
			}
		}
	}
}

// P20.2: behind 100,000 candidates there is ErrDraws, while p is drawn, while q is, and while it is drawn again; what is behind them is left.
func TestTooManyDraws(t *testing.T) {
	const most = 100000
	noughts := func(many int) []byte { return make([]byte, 8*many) }
	p, q, rest := words(first, 2), words(second, 2), []byte{1, 2, 3, 4, 5, 6, 7, 8, 9}
	refuses := made{e: api.ErrDraws, left: len(rest)}
	for _, ahead := range [][]byte{nil, p, behind(p, p), behind(p, p, p, p)} {
		askPair(t, behind(ahead, noughts(most), rest), 128, 65537, 1, refuses)
		askPair(t, behind(ahead, noughts(most)), 128, 65537, 1, made{e: api.ErrDraws})
		askPair(t, behind(ahead, noughts(most)[1:]), 128, 65537, 1, made{e: api.ErrSpent})
		late := behind(ahead, noughts(most), p, q)
		askPair(t, late, 128, 65537, 1, made{e: api.ErrDraws, left: len(p) + len(q)})
	}
	// Each draw has a count of its own.
	laid := behind(noughts(most-1), p, noughts(most-1), p, noughts(most-1), q, rest)
	askPair(t, laid, 128, 65537, 1, pairOf(first, second, len(rest)))
	laid = behind(p, noughts(most-1), p, noughts(most), rest)
	askPair(t, laid, 128, 65537, 1, refuses)
	// Pairs of 256 bits have candidates of 128.
	askPair(t, behind(make([]byte, 16*most), rest), 256, 3, 100, refuses)
}

// P20.2 against prime.Draw, called by hand on the same bytes: of all kinds of widths, exponents and rounds.
func TestPairByHand(t *testing.T) {
	ends := map[api.Errno]int{}
	ask := func(laid []byte, width int, e uint64, rounds int) {
		t.Helper()
		want := byHand(laid, width, e, rounds)
		askPair(t, laid, width, e, rounds, want)
		ends[want.e]++
	}
	for start := range uint32(3) {
		for _, width := range []int{128, 256, 384} {
			laid := mixed(start, 40*width)
			for i, e := range []uint64{3, 5, 17, 65537, 2147483647, 1<<32 - 5, 1<<32 - 1} {
				for _, size := range []int{len(laid), len(laid) / 2, width, 1000} {
					ask(laid[:size], width, e, 1+(i+int(start))%5)
				}
			}
			ask(laid, width, 65537, 20)
			ask(laid, width, 65537, 100)
			ask(laid, width, 65537, 101)
			ask(laid, width+64, 65537, 1)
			ask(laid, width, 65538, 1)
		}
		ask(mixed(start, 40000), 512, 65537, 10)
	}
	ask(mixed(20, 100000), 1024, 65537, 3)
	ask(mixed(21, 100000), 1152, 3, 2)
	if ends[api.OK] < 70 || ends[api.ErrSpent] < 70 || ends[api.ErrRange] < 20 {
		t.Errorf("of one kind there are few: %d", ends)
	}
}

// P20.2 against the chapter's words, without a call of the program.
func TestPairAsPlain(t *testing.T) {
	ends, again := map[api.Errno]int{}, 0
	ask := func(laid []byte, e uint64, rounds int) {
		t.Helper()
		want := plainPair(laid, e, rounds)
		askPair(t, laid, 128, e, rounds, want)
		ends[want.e]++
		if want.e == api.OK && len(drawsOf(laid[:len(laid)-want.left], 64, e, rounds)) > 2 {
			again++
		}
	}
	for start := range uint32(60) {
		laid := mixed(1000+start, 3000)
		for i, e := range []uint64{3, 15, 65537, 1<<32 - 1} {
			ask(laid, e, 1+(i+int(start))%4)
			ask(laid[:int(start)*15], e, 1)
		}
	}
	// Few words come again and again, so that p does, too.
	list := []uint64{first, second, common, other, alone, liarCommon, liarOther, liarAlone, 0, 1, 2, first, second, common}
	for start := range uint32(1000) {
		var laid []byte
		for _, b := range mixed(5000+start, 30) {
			laid = append(laid, words(list[int(b)%len(list)])...)
		}
		ask(laid, 65537, 1+int(start)%2)
	}
	if ends[api.OK] < 300 || ends[api.ErrSpent] < 100 || again < 50 {
		t.Errorf("of one kind there are few: %d, %d times p came again", ends, again)
	}
}

// P20.2: calls on one script go on where it stands, also behind errors.
func TestPairsGoOn(t *testing.T) {
	laid := words(first, 2, second, 2, second, 2, second, 2, third, 2, 5, common, liarCommon, other, liarOther, first, 2, first, 2, 3)
	s := script.New(laid)
	ask := func(width int, e uint64, rounds int, want made) {
		t.Helper()
		p, q, wrong := keygen.Pair(s, width, e, rounds)
		if got := (made{p, q, wrong, s.Left()}); fmt.Sprint(got) != fmt.Sprint(want) {
			t.Errorf("Pair of %d bits, e %d, %d rounds: %x, not %x", width, e, rounds, got, want)
		}
	}
	ask(129, 65537, 1, made{e: api.ErrRange, left: 160})
	ask(128, 65537, 1, pairOf(first, second, 128))
	ask(128, 65536, 1, made{e: api.ErrRange, left: 128})
	ask(128, 65537, 1, pairOf(second, third, 80))
	if b, _ := s.Read(8); !bytes.Equal(b, words(5)) {
		t.Errorf("the next bytes are %x", b)
	}
	if k, wrong := keygen.Generate(s, 128, 65537, 1); wrong != api.ErrKey || !sameKeys(k, api.Key{}) || s.Left() != 40 {
		t.Errorf("Generate: %x, error %d, %d bytes are left", k, wrong, s.Left())
	}
	ask(128, 65537, 0, made{e: api.ErrRange, left: 40})
	ask(128, 65537, 1, made{e: api.ErrSpent})
	ask(128, 65537, 1, made{e: api.ErrSpent})
	ask(128, 65537, 101, made{e: api.ErrRange})
}

// P2: answers are new memory: whoever changes one, or what lies behind it, changes neither the other, nor the script, nor a later answer.
func TestPairsApart(t *testing.T) {
	for _, width := range []int{128, 256, 384} {
		laid := mixed(7, 100*width)
		s, same := script.New(laid), script.New(laid)
		for range 3 {
			p, q, e := keygen.Pair(s, width, 65537, 2)
			wantP, wantQ, is := keygen.Pair(same, width, 65537, 2)
			if e != api.OK || is != api.OK || !slices.Equal(p, wantP) || !slices.Equal(q, wantQ) {
				t.Fatalf("%x and %x, not %x and %x", p, q, wantP, wantQ)
			}
			before := slices.Clone(wantQ)
			spoil(p)
			if !slices.Equal(q, wantQ) {
				t.Error("with p q is changed")
			}
			spoil(q)
			if !slices.Equal(wantQ, before) || slices.Equal(q, before) {
				t.Error("with one call's answer another's is changed")
			}
		}
		if s.Left() != same.Left() || !slices.Equal(laid, mixed(7, 100*width)) {
			t.Error("with an answer the script is changed")
		}
		// The bytes of which the script was made are its own.
		s = script.New(laid)
		clear(laid)
		same = script.New(mixed(7, 100*width))
		p, q, _ := keygen.Pair(s, width, 65537, 2)
		wantP, wantQ, _ := keygen.Pair(same, width, 65537, 2)
		if !slices.Equal(p, wantP) || !slices.Equal(q, wantQ) {
			t.Error("with the bytes an answer is changed")
		}
	}
}
