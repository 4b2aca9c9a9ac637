package miller_test

import (
	"bytes"
	"math"
	"slices"
	"testing"

	"sconce/api"
	"sconce/miller"
	"sconce/script"
)

var wrongCounts = []int{-1, -2, -100, math.MinInt32, math.MinInt, 101, 102, 1000, math.MaxInt32, 1 << 32, 1<<32 + 1, math.MaxInt}

// nobodys are scripts that no call has made.
func nobodys() []*script.Script { return []*script.Script{nil, {}} }

// inBytes are numbers as a script tells them for n, each in as many bytes as n needs.
func inBytes(n api.Nat, list ...api.Nat) []byte {
	var out []byte
	for _, x := range list {
		for i := sizeOf(n) - 1; i >= 0; i-- {
			out = append(out, byteOf(x, i))
		}
	}
	return out
}

// byteOf is a number's byte at a place, the lowest being 0.
func byteOf(x api.Nat, i int) byte {
	if i/8 >= len(x) {
		return 0
	}
	return byte(x[i/8] >> (i % 8 * 8))
}

// sizeOf is how many bytes x needs.
func sizeOf(x api.Nat) int { return (widthOf(x) + 7) / 8 }

// widthOf is how many bits x has without noughts ahead.
func widthOf(x api.Nat) int {
	for i := 64*len(x) - 1; i >= 0; i-- {
		if x[i/64]>>(i%64)%2 == 1 {
			return i + 1
		}
	}
	return 0
}

// plainBelow is Below by the words of chapter 15 with n's length, of an n above 1: a number, and the bytes that are left.
func plainBelow(laid []byte, n api.Nat) (api.Nat, []byte, api.Errno) {
	if len(n) > api.MaxWords {
		return nil, laid, api.ErrLong
	}
	size := sizeOf(n)
	for {
		if len(laid) < size {
			return nil, nil, api.ErrSpent
		}
		x := make(api.Nat, len(n))
		for i := range widthOf(n) {
			x[i/64] |= uint64(laid[size-1-i/8]>>(i%8)&1) << (i % 64)
		}
		laid = laid[size:]
		if below(api.Nat{0}, x) && below(x, n) {
			return x, laid, api.OK
		}
	}
}

// told is what Rounds tells, and how many bytes are left behind it.
type told struct {
	is    bool
	bases []api.Nat
	e     api.Errno
	left  int
}

// plainRounds is Rounds by the chapter's words.
func plainRounds(laid []byte, n api.Nat, k int) told {
	if e := numberError(n); e != api.OK {
		return told{e: e, left: len(laid)}
	}
	if k < 0 || k > 100 {
		return told{e: api.ErrRange, left: len(laid)}
	}
	var bases []api.Nat
	for len(bases) < k {
		base, left, e := plainBelow(laid, n)
		laid = left
		if e != api.OK {
			return told{e: e, left: len(laid)}
		}
		if slices.Equal(cut(base), api.Nat{1}) || slices.Equal(base, less(n, 1)) {
			continue
		}
		bases = append(bases, base)
		if is, _ := plainStrong(n, base); !is {
			return told{bases: bases, left: len(laid)}
		}
	}
	return told{is: true, bases: bases, left: len(laid)}
}

// askTold asks what Rounds tells, words and all, and how many bytes are left behind it.
func askTold(t *testing.T, s *script.Script, n api.Nat, k int, want told) {
	t.Helper()
	is, bases, e := miller.Rounds(s, n, k)
	got := told{is, bases, e, s.Left()}
	if got.is != want.is || got.e != want.e || got.left != want.left || !slices.EqualFunc(got.bases, want.bases, slices.Equal[api.Nat]) {
		t.Errorf("Rounds of %d words (%x), %d: %v, not %v", len(n), cut(n), k, got, want)
	}
}

// askRounds asks the same of a script of bytes, of which the last ones have to be left.
func askRounds(t *testing.T, laid []byte, n api.Nat, k int, want told) {
	t.Helper()
	s := script.New(laid)
	askTold(t, s, n, k, want)
	if left, _ := s.Read(s.Left()); !bytes.Equal(left, laid[len(laid)-want.left:]) {
		t.Errorf("Rounds(%x, %d) of %d leaves %d", cut(n), k, laid, left)
	}
}

// wordsOf are numbers of one word.
func wordsOf(list ...uint64) []api.Nat {
	var out []api.Nat
	for _, w := range list {
		out = append(out, api.Nat{w})
	}
	return out
}

// P17.2 in numbers written out: primes, and others that an early and a later base finds out.
func TestRounds(t *testing.T) {
	for _, c := range []struct {
		laid  []byte
		n     uint64
		k     int
		is    bool
		bases []uint64
		left  int
	}{
		{[]byte{1, 0, 96, 5, 100, 7, 3}, 97, 2, true, []uint64{5, 7}, 1},
		{[]byte{5, 7, 3}, 97, 0, true, nil, 3},
		{[]byte{5, 7, 3}, 97, 1, true, []uint64{5}, 2},
		{[]byte{5, 7, 3}, 97, 2, true, []uint64{5, 7}, 1},
		{[]byte{5, 7, 3}, 97, 3, true, []uint64{5, 7, 3}, 0},
		// The same base may come again.
		{[]byte{5, 5, 5, 5}, 97, 3, true, []uint64{5, 5, 5}, 1},
		// The highest bits that n hasn't don't count: 128 + 5, 128 + 96, 128 + 2.
		{[]byte{133, 224, 130, 9}, 97, 2, true, []uint64{5, 2}, 1},
		// Of 5 there are 2 and 3 alone; 6 and 7 are above it.
		{[]byte{0, 1, 4, 5, 6, 7, 2, 0, 1, 4, 5, 6, 7, 3, 2}, 5, 2, true, []uint64{2, 3}, 1},
		{[]byte{2, 3}, 9, 2, false, []uint64{2}, 1},
		{[]byte{1, 8, 0, 15, 7, 2}, 9, 100, false, []uint64{7}, 1},
		// 7 and 18 pass of 25, others don't.
		{[]byte{7, 18, 7, 18, 7}, 25, 4, true, []uint64{7, 18, 7, 18}, 1},
		{[]byte{7, 18, 2, 7, 18}, 25, 100, false, []uint64{7, 18, 2}, 2},
		{[]byte{7, 18, 2, 7, 18}, 25, 3, false, []uint64{7, 18, 2}, 2},
		{[]byte{7, 18, 2, 7, 18}, 25, 2, true, []uint64{7, 18}, 3},
		{[]byte{7, 24, 1, 25, 31, 0, 23, 7}, 25, 2, false, []uint64{7, 23}, 1},
		// The base that finds it out may be the last of the script.
		{[]byte{7, 18, 7, 3}, 25, 100, false, []uint64{7, 18, 7, 3}, 0},
		{[]byte{0, 2, 0, 4, 0, 3, 0, 2}, 2047, 5, false, []uint64{2, 4, 3}, 2},
		{[]byte{0, 2, 0, 4, 0, 11, 0, 3}, 2047, 3, true, []uint64{2, 4, 11}, 2},
		{[]byte{0, 2, 0, 4, 0, 11, 0, 3}, 2047, 4, false, []uint64{2, 4, 11, 3}, 0},
		// 2046, 2047 with bits above, 0 with bits above, 1: passed over.
		{[]byte{7, 254, 255, 255, 8, 0, 0, 1, 240, 2, 9, 9}, 2047, 1, true, []uint64{2}, 2},
	} {
		askRounds(t, c.laid, api.Nat{c.n}, c.k, told{is: c.is, bases: wordsOf(c.bases...), left: c.left})
	}
}

// P17.2: each base of one byte is tried, but for 1 and n - 1, in the script's order.
func TestRoundsOfEachByte(t *testing.T) {
	for _, n := range []uint64{5, 7, 17, 97, 127, 251} {
		for b := range 256 {
			drawn := uint64(b) & (1<<widthOf(api.Nat{n}) - 1)
			want := told{is: true, bases: wordsOf(drawn), left: 1}
			if drawn < 2 || drawn > n-2 {
				want = told{is: true, bases: wordsOf(3)}
			}
			askRounds(t, []byte{byte(b), 3}, api.Nat{n}, 1, want)
		}
	}
}

// P17.2: an n that may not be is told whatever k and the script are, and not a byte is read.
func TestRoundsOfWrongNumbers(t *testing.T) {
	laid := bytes.Repeat([]byte{0, 2}, 700)
	for _, k := range append([]int{0, 1, 2, 100}, wrongCounts...) {
		for _, more := range []int{0, 1, 300} {
			for _, n := range []api.Nat{nil, {}, {0}, {1}, {2}, {3}, {4}, {6}, {96}, {top - 1}, {0, 1}, {2, 0, 1}, single(130, 129, 1), with(full(130), 0, top-1)} {
				askRounds(t, laid, longer(n, more), k, told{e: api.ErrRange, left: len(laid)})
				askTold(t, nil, longer(n, more), k, told{e: api.ErrRange})
			}
			for _, n := range []api.Nat{full(131), single(131, 130, 1), with(single(131, 130, 1), 0, 1), full(300), full(301), full(1000), ones(9689)} {
				askRounds(t, laid, longer(n, more), k, told{e: api.ErrLong, left: len(laid)})
				askTold(t, nil, longer(n, more), k, told{e: api.ErrLong})
			}
		}
	}
}

// P17.2: k is from 0 to 100.
func TestRoundsOfWrongCounts(t *testing.T) {
	laid := bytes.Repeat([]byte{2, 3, 5}, 200)
	for _, n := range []api.Nat{{5}, {97}, {9}, {97, 0}, {1, 1}, full(130), longer(api.Nat{97}, 300)} {
		for _, k := range wrongCounts {
			askRounds(t, laid, n, k, told{e: api.ErrRange, left: len(laid)})
			for _, s := range nobodys() {
				askTold(t, s, n, k, told{e: api.ErrRange})
			}
		}
	}
}

// P17.2: no round finds nothing out and needs no byte.
func TestNoRounds(t *testing.T) {
	for _, n := range []api.Nat{{5}, {9}, {97}, {97, 0}, {2047}, {1, 1}, full(130), longer(full(130), 170), longer(api.Nat{9}, 300)} {
		for _, laid := range [][]byte{nil, {}, {2}, {0, 1, 2, 3}} {
			askRounds(t, laid, n, 0, told{is: true, left: len(laid)})
		}
		for _, s := range nobodys() {
			askTold(t, s, n, 0, told{is: true})
		}
	}
}

// P17.2 with scripts without bytes.
func TestRoundsWithoutBytes(t *testing.T) {
	for _, n := range []api.Nat{{5}, {9}, {97, 0}, {2047}, {1, 1}, full(130), longer(full(130), 170)} {
		for _, k := range []int{1, 2, 100} {
			for _, s := range append(nobodys(), script.New(nil), script.New([]byte{}), script.New([]byte{2, 3}[:0])) {
				for range 2 {
					askTold(t, s, n, k, told{e: api.ErrSpent})
				}
			}
		}
	}
}

// P17.2: bytes run out ahead of the first base, between two, and within one; no bases are told, and no bytes are left.
func TestRoundsAreSpent(t *testing.T) {
	for _, c := range []struct {
		laid []byte
		n    api.Nat
		k    int
	}{
		{[]byte{0}, api.Nat{97}, 1},
		{[]byte{1}, api.Nat{97}, 1},
		{[]byte{96, 97, 127, 0, 1, 96}, api.Nat{97}, 1},
		{[]byte{5}, api.Nat{97}, 2},
		{[]byte{5, 1, 96}, api.Nat{97}, 2},
		{[]byte{5, 7, 3}, api.Nat{97}, 4},
		{[]byte{5, 7, 3}, api.Nat{97, 0, 0}, 100},
		{bytes.Repeat([]byte{5}, 99), api.Nat{97}, 100},
		{[]byte{7, 18}, api.Nat{25}, 3},
		{[]byte{0}, api.Nat{2047}, 1},
		{[]byte{3}, api.Nat{2047}, 1},
		{[]byte{0, 2, 0}, api.Nat{2047}, 2},
		{[]byte{0, 2, 0, 4, 3}, api.Nat{2047}, 3},
		{[]byte{0, 1, 3}, api.Nat{2047}, 1},
		{[]byte{0, 0, 0, 0, 0, 0, 0, 3}, api.Nat{1, 1}, 1},
		{inBytes(api.Nat{1, 1}, api.Nat{2}, api.Nat{4})[:17], api.Nat{1, 1}, 2},
		{inBytes(api.Nat{1, 1}, api.Nat{2}, api.Nat{4}), api.Nat{1, 1}, 3},
		{inBytes(ones(127), api.Nat{2}, api.Nat{0, 5}, api.Nat{3})[:47], ones(127), 3},
		{bytes.Repeat([]byte{255}, 1039), full(130), 1},
		{bytes.Repeat([]byte{255}, 1040), full(130), 1},
	} {
		askRounds(t, c.laid, c.n, c.k, told{e: api.ErrSpent})
	}
}

// P17.2: numbers of some words, with draws that are passed over ahead of each base.
func TestRoundsOfSomeWords(t *testing.T) {
	for _, n := range []api.Nat{{top - 58}, {51, 0, 1}, ones(89), ones(127), proth(3, 66), proth(5, 127), proth(9, 67), with(full(2), 0, top-158)} {
		// All bits that n has are n, or above it.
		last, behind := less(n, 1), full(len(n))
		bases := []api.Nat{longer(api.Nat{2}, len(n)-1), less(n, 2), slowRest(mixture(len(n), 4), n), less(n, 3)}
		draws := []api.Nat{{0}, {1}, bases[0], last, n, bases[1], behind, last, {1}, bases[2], bases[3], {3}}
		ends := []int{3, 6, 10, 11}
		laid := inBytes(n, draws...)
		for _, more := range []int{0, 1, 5} {
			var want []api.Nat
			for i, base := range bases {
				want = append(want, longer(base, more))
				askRounds(t, laid, longer(n, more), i+1, told{is: true, bases: want, left: sizeOf(n) * (len(draws) - ends[i])})
			}
		}
	}
}

// P17.2: numbers of some words that a later base finds out.
func TestRoundsFindOut(t *testing.T) {
	for _, c := range []struct {
		n     api.Nat
		bases []uint64
	}{
		{api.Nat{3215031751}, []uint64{2, 3, 5, 7, 19, 37, 11}},
		{api.Nat{3825123056546413051}, []uint64{2, 3, 5, 7, 11, 13, 17, 19, 23, 29, 31, 37}},
		{api.Nat{0x51adc5b22410a5fd, 0x2be69}, []uint64{41, 37, 31, 2, 3, 4, 43}},
		{ones(67), []uint64{2, 4, 3}},
		{api.Nat{1, 0, 0, 0, 1}, []uint64{2, 8, 1 << 63, 5}},
		{api.Nat{1, 0, 0, 0, 1}, []uint64{7}},
	} {
		var want, draws []api.Nat
		for _, base := range c.bases {
			want = append(want, longer(api.Nat{base}, len(c.n)-1))
			draws = append(draws, api.Nat{base}, api.Nat{1}, api.Nat{0}, less(c.n, 1))
		}
		many := len(c.bases)
		laid := inBytes(c.n, draws...)
		for k := range 101 {
			if k < many {
				askRounds(t, laid, c.n, k, told{is: true, bases: want[:k], left: len(laid) - sizeOf(c.n)*max(4*k-3, 0)})
				continue
			}
			askRounds(t, laid, c.n, k, told{bases: want, left: 3 * sizeOf(c.n)})
		}
	}
}

// P17.2: as many rounds as may be.
func TestMostRounds(t *testing.T) {
	n := api.Nat{251, 0}
	var laid []byte
	var want []api.Nat
	for i := range uint64(101) {
		laid = append(laid, byte(2*i+3))
		want = append(want, api.Nat{2*i + 3, 0})
	}
	for _, k := range []int{1, 50, 99, 100} {
		askRounds(t, laid, n, k, told{is: true, bases: want[:k], left: 101 - k})
	}
	askRounds(t, laid, n, 101, told{e: api.ErrRange, left: 101})
	// 7 passes of 25 each time; the hundredth base finds it out.
	laid = append(bytes.Repeat([]byte{7}, 99), 6, 7)
	want = append(slices.Repeat(wordsOf(7), 99), api.Nat{6})
	askRounds(t, laid, api.Nat{25}, 99, told{is: true, bases: want[:99], left: 2})
	askRounds(t, laid, api.Nat{25}, 100, told{bases: want, left: 1})
}

// P17.2: bases have n's length, noughts at its top and all, as many as Below takes.
func TestRoundsInLength(t *testing.T) {
	for _, words := range []int{1, 2, 3, 129, 130, 131, 132, 299, 300} {
		askRounds(t, []byte{5, 7, 3}, single(words, 0, 97), 2, told{is: true, bases: []api.Nat{single(words, 0, 5), single(words, 0, 7)}, left: 1})
		askRounds(t, []byte{7, 2, 3}, single(words, 0, 25), 3, told{bases: []api.Nat{single(words, 0, 7), single(words, 0, 2)}, left: 1})
		askRounds(t, []byte{7, 1}, single(words, 0, 25), 2, told{e: api.ErrSpent})
	}
	// Below has ErrLong of more words than MaxWords, whatever they are, and reads nothing for it.
	for _, words := range []int{301, 302, 1000} {
		for _, k := range []int{1, 2, 100} {
			askRounds(t, []byte{5, 7, 3}, single(words, 0, 97), k, told{e: api.ErrLong, left: 3})
			askTold(t, nil, single(words, 0, 97), k, told{e: api.ErrLong})
		}
	}
}

// P17.2 of just MaxModulus words.
func TestRoundsOfMostWords(t *testing.T) {
	n := greatPrime()
	base := mixture(129, 6)
	laid := inBytes(n, less(n, 1), longer(base, 1), api.Nat{1}, n, api.Nat{2}, api.Nat{3})
	want := []api.Nat{longer(base, 1), single(130, 0, 2)}
	askRounds(t, laid, n, 2, told{is: true, bases: want, left: sizeOf(n)})
	laid = inBytes(full(130), api.Nat{2}, api.Nat{3})
	askRounds(t, laid, longer(full(130), 170), 2, told{bases: []api.Nat{single(300, 0, 2)}, left: 1040})
}

// P17.2 against the chapter's words: small numbers, of which many bases pass, and others, with k and scripts of all kinds.
func TestRoundsAsPlain(t *testing.T) {
	next := spread(7)
	someBytes := func(many int) []byte {
		b := make([]byte, many)
		for i := range b {
			b[i] = byte(next() >> 8)
		}
		return b
	}
	ask := func(laid []byte, n api.Nat, k int) {
		t.Helper()
		askRounds(t, laid, n, k, plainRounds(laid, n, k))
	}
	for n := range uint64(130) {
		for k := -1; k < 6; k++ {
			ask(someBytes(int(next()>>8%16)), longer(api.Nat{n}, int(next()>>8%3)), k)
		}
	}
	for _, n := range slices.Concat(primes(), products()) {
		if len(n) > 3 {
			continue
		}
		for _, k := range []int{0, 1, 2, 5, 100, 101} {
			ask(someBytes(int(next()>>8%60)), longer(n, int(next()>>8%3)), k)
		}
	}
	for range 300 {
		n := api.Nat{next() >> (next() >> 8 % 60)}
		ask(someBytes(int(next()>>8%100)), n, int(next()>>8%12))
		n[0] |= 1
		ask(someBytes(int(next()>>8%100)), n, int(next()>>8%12))
	}
}

// P17.2: calls on one script go on where it stands, also behind errors.
func TestRoundsGoOn(t *testing.T) {
	s := script.New([]byte{5, 7, 2, 1, 0, 3, 9, 0, 2, 6})
	askTold(t, s, api.Nat{97}, 1, told{is: true, bases: wordsOf(5), left: 9})
	askTold(t, s, api.Nat{96}, 1, told{e: api.ErrRange, left: 9})
	askTold(t, s, api.Nat{25}, 2, told{bases: wordsOf(7, 2), left: 7})
	askTold(t, s, full(131), 1, told{e: api.ErrLong, left: 7})
	askTold(t, s, api.Nat{97}, 101, told{e: api.ErrRange, left: 7})
	askTold(t, s, api.Nat{97}, 0, told{is: true, left: 7})
	askTold(t, s, api.Nat{97, 0}, 2, told{is: true, bases: []api.Nat{{3, 0}, {9, 0}}, left: 3})
	askTold(t, s, api.Nat{2047}, 1, told{is: true, bases: wordsOf(2), left: 1})
	askTold(t, s, api.Nat{2047}, 1, told{e: api.ErrSpent})
	askTold(t, s, api.Nat{97}, 1, told{e: api.ErrSpent})
	askTold(t, s, api.Nat{97}, 0, told{is: true})
}

// P2: the bases stand apart from one another, from n and from the script: whoever changes one, or what lies behind it, changes no other.
func TestBasesApart(t *testing.T) {
	for _, c := range []struct {
		n    api.Nat
		laid []byte
		k    int
	}{
		{api.Nat{97}, []byte{5, 5, 7, 5, 3}, 4},
		{api.Nat{97, 0, 0}, []byte{5, 5, 7, 5, 3}, 4},
		{api.Nat{25, 0}, []byte{7, 7, 18, 2, 3}, 5},
		{ones(127), inBytes(ones(127), api.Nat{2}, api.Nat{2}, api.Nat{0, 7}, api.Nat{5, 5}), 4},
		{single(300, 0, 97), []byte{5, 5, 7}, 3},
	} {
		s := script.New(c.laid)
		want := plainRounds(c.laid, c.n, c.k)
		before := slices.Clone(c.n)
		_, bases, _ := miller.Rounds(s, c.n, c.k)
		for i, base := range bases {
			base = base[:cap(base)]
			for j := range base {
				base[j] = top
			}
			if !slices.EqualFunc(bases[i+1:], want.bases[i+1:], slices.Equal[api.Nat]) {
				t.Fatalf("with base %d others are changed: %x", i, bases[i+1:])
			}
		}
		bases = bases[:cap(bases)]
		clear(bases)
		if !slices.Equal(c.n, before) {
			t.Fatalf("with the bases %x is changed: %x", before, c.n)
		}
		if left, _ := s.Read(want.left); !bytes.Equal(left, c.laid[len(c.laid)-want.left:]) {
			t.Errorf("with the bases the script is changed: %d", left)
		}
		askRounds(t, c.laid, c.n, c.k, want)
	}
}

// P2: bases that were told stay as they are when n is changed, or another call draws from the script.
func TestBasesStay(t *testing.T) {
	n := api.Nat{97, 0}
	s := script.New([]byte{5, 7, 3, 9, 11, 2})
	_, first, _ := miller.Rounds(s, n, 2)
	_, second, _ := miller.Rounds(s, n, 3)
	clear(n)
	askTold(t, s, api.Nat{5}, 1, told{is: true, bases: wordsOf(2)})
	for _, c := range []struct{ got, want []api.Nat }{{first, []api.Nat{{5, 0}, {7, 0}}}, {second, []api.Nat{{3, 0}, {9, 0}, {11, 0}}}} {
		if !slices.EqualFunc(c.got, c.want, slices.Equal[api.Nat]) {
			t.Errorf("%x, not %x", c.got, c.want)
		}
	}
}

// P2: n stands in a list with more around it, of which nothing is read, written or handed out.
func TestRoundsLeaveAll(t *testing.T) {
	laid := bytes.Repeat([]byte{7, 5, 1, 0}, 30)
	for _, n := range slices.Concat(products(), []api.Nat{{97}, {97, 0, 0}, {25, 0}, {3}, {8}, {0, 0}, full(131), longer(api.Nat{9}, 200)}) {
		for _, k := range []int{-1, 0, 1, 3, 101} {
			want := plainRounds(laid, n, k)
			for _, beside := range []uint64{0, 1, top} {
				room := slices.Repeat(api.Nat{beside}, len(n)+40)
				copy(room[20:], n)
				before := slices.Clone(room)
				s := script.New(laid)
				askTold(t, s, room[20:20+len(n)], k, want)
				if !slices.Equal(room, before) {
					t.Fatalf("%x or what is beside it is changed", n)
				}
			}
		}
	}
}
