package script_test

import (
	"bytes"
	"math"
	"slices"
	"testing"

	"sconce/api"
	"sconce/script"
)

const top = uint64(1<<64 - 1)

var belowNought = []int{-1, -2, -8, -255, -256, math.MinInt32, math.MinInt + 1, math.MinInt}

var tooMany = []int{1 << 20, math.MaxInt32, 1 << 32, 1<<32 + 1, math.MaxInt - 1, math.MaxInt}

// nobodys are scripts that no call has made: both count as one without bytes.
func nobodys() []*script.Script { return []*script.Script{nil, {}} }

// full has n words, all of them ones.
func full(n int) api.Nat {
	x := make(api.Nat, n)
	for i := range x {
		x[i] = top
	}
	return x
}

// single has n words, of which all but the one at a place are 0.
func single(n, place int, w uint64) api.Nat {
	x := make(api.Nat, n)
	x[place] = w
	return x
}

// spread tells words that are spread, others for each start.
func spread(start uint64) func() uint64 {
	w := 0x9e3779b97f4a7c15 * (2*start + 1)
	return func() uint64 {
		w ^= w << 13
		w ^= w >> 7
		w ^= w << 17
		return w
	}
}

// mixture has n bytes that are spread, every fifth or so being 0.
func mixture(n int, start uint64) []byte {
	b := make([]byte, n)
	next := spread(start)
	for i := range b {
		if w := next() >> 20; w%5 != 0 {
			b[i] = byte(w >> 8)
		}
	}
	return b
}

// tooLong are numbers of more than MaxWords words, whatever they hold.
func tooLong() []api.Nat {
	return []api.Nat{make(api.Nat, 301), single(301, 0, 1), single(301, 0, 5), single(301, 300, 1), full(301), full(1000)}
}

// tooSmall are numbers below 2.
func tooSmall() []api.Nat {
	return []api.Nat{nil, {}, {0}, {1}, {0, 0}, {1, 0}, {1, 0, 0, 0}, make(api.Nat, 300), single(300, 0, 1)}
}

// askRead asks that the next n bytes are those that are wanted.
func askRead(t *testing.T, s *script.Script, n int, want []byte) {
	t.Helper()
	if got, e := s.Read(n); e != api.OK || !bytes.Equal(got, want) {
		t.Errorf("Read(%d): %d, error %d, not %d", n, got, e, want)
	}
}

// askNoRead asks that bytes are refused with an error, and nothing beside it.
func askNoRead(t *testing.T, s *script.Script, n int, want api.Errno) {
	t.Helper()
	if got, e := s.Read(n); e != want || len(got) != 0 {
		t.Errorf("Read(%d): %d, error %d, not %d", n, got, e, want)
	}
}

// askFilled asks that the next n bytes that aren't 0 are those that are wanted.
func askFilled(t *testing.T, s *script.Script, n int, want []byte) {
	t.Helper()
	if got, e := s.Filled(n); e != api.OK || !bytes.Equal(got, want) {
		t.Errorf("Filled(%d): %d, error %d, not %d", n, got, e, want)
	}
}

// askNotFilled asks that bytes are refused with an error, and nothing beside it.
func askNotFilled(t *testing.T, s *script.Script, n int, want api.Errno) {
	t.Helper()
	if got, e := s.Filled(n); e != want || len(got) != 0 {
		t.Errorf("Filled(%d): %d, error %d, not %d", n, got, e, want)
	}
}

// askBelow asks that a number is drawn, words and all, with so many draws.
func askBelow(t *testing.T, s *script.Script, m, want api.Nat, draws int) {
	t.Helper()
	if got, many, e := s.Below(m); e != api.OK || many != draws || !slices.Equal(got, want) {
		t.Errorf("Below(%x): %x, %d draws, error %d, not %x, %d draws", m, got, many, e, want, draws)
	}
}

// askNotBelow asks that a number is refused with an error, and nothing beside it.
func askNotBelow(t *testing.T, s *script.Script, m api.Nat, want api.Errno) {
	t.Helper()
	if got, many, e := s.Below(m); e != want || many != 0 || len(got) != 0 {
		t.Errorf("Below(%x): %x, %d draws, error %d, not %d", m, got, many, e, want)
	}
}

// askLeft asks which bytes are left; they are read to be known, so that none are left behind it.
func askLeft(t *testing.T, s *script.Script, want []byte) {
	t.Helper()
	if left := s.Left(); left != len(want) {
		t.Errorf("%d bytes are left, not %d", left, len(want))
		return
	}
	askRead(t, s, len(want), want)
	if left := s.Left(); left != 0 {
		t.Errorf("%d bytes are left behind all", left)
	}
}

// The chapter's examples.
func TestExamples(t *testing.T) {
	askFilled(t, script.New([]byte{0, 5, 0, 7}), 2, []byte{5, 7})
	askBelow(t, script.New([]byte{255, 3}), api.Nat{5}, api.Nat{3}, 2)
}

// P15.1
func TestNew(t *testing.T) {
	for _, n := range []int{0, 1, 2, 3, 8, 100, 70000} {
		b := mixture(n, uint64(n))
		askLeft(t, script.New(b), b)
	}
}

// P15.1, P3: no bytes, nil or not, are the same; a nil script is one without bytes, and so is one that nobody made.
func TestNoBytes(t *testing.T) {
	scripts := func() []*script.Script {
		return append(nobodys(), script.New(nil), script.New([]byte{}), script.New([]byte{1, 2}[:0]))
	}
	for i := range scripts() {
		fresh := func() *script.Script { return scripts()[i] }
		if left := fresh().Left(); left != 0 {
			t.Errorf("script %d: %d bytes are left", i, left)
		}
		askRead(t, fresh(), 0, nil)
		askFilled(t, fresh(), 0, nil)
		for _, n := range belowNought {
			askNoRead(t, fresh(), n, api.ErrRange)
			askNotFilled(t, fresh(), n, api.ErrRange)
		}
		for _, n := range append([]int{1, 2, 8, 300}, tooMany...) {
			askNoRead(t, fresh(), n, api.ErrSpent)
			askNotFilled(t, fresh(), n, api.ErrSpent)
		}
		for _, m := range tooLong() {
			askNotBelow(t, fresh(), m, api.ErrLong)
		}
		for _, m := range tooSmall() {
			askNotBelow(t, fresh(), m, api.ErrRange)
		}
		for _, m := range []api.Nat{{2}, {5}, {256, 0}, {0, 1}, single(300, 0, 2), full(300)} {
			askNotBelow(t, fresh(), m, api.ErrSpent)
		}
	}
}

// P15.1: a script without bytes goes on being one, call behind call.
func TestNoBytesStay(t *testing.T) {
	for _, s := range append(nobodys(), script.New(nil)) {
		for range 3 {
			askNoRead(t, s, 1, api.ErrSpent)
			askNotFilled(t, s, 1, api.ErrSpent)
			askNotBelow(t, s, api.Nat{5}, api.ErrSpent)
			askNoRead(t, s, -1, api.ErrRange)
			askRead(t, s, 0, nil)
			askFilled(t, s, 0, nil)
			if left := s.Left(); left != 0 {
				t.Errorf("%d bytes are left", left)
			}
		}
	}
}

// P15.1, P2: the script keeps none of the list that it was made of.
func TestNewKeepsACopy(t *testing.T) {
	b := []byte{1, 2, 3, 4}
	s := script.New(b)
	clear(b)
	askRead(t, s, 2, []byte{1, 2})
	copy(b, []byte{9, 9, 9, 9})
	askFilled(t, s, 1, []byte{3})
	clear(b)
	askBelow(t, s, api.Nat{7}, api.Nat{4}, 1)
}

// P2: two scripts of one list go each their own way.
func TestScriptsApart(t *testing.T) {
	b := []byte{1, 2, 3, 4}
	one, other := script.New(b), script.New(b)
	askRead(t, one, 3, []byte{1, 2, 3})
	askRead(t, other, 1, []byte{1})
	askNoRead(t, one, 2, api.ErrSpent)
	askLeft(t, other, []byte{2, 3, 4})
}

// P2: the bytes stand in a list with more behind them, of which nothing may be read, written or handed out.
func TestNewWithRoom(t *testing.T) {
	for _, size := range []int{0, 1, 2, 16, 100} {
		room := bytes.Repeat([]byte{7}, 300)
		for i, b := range mixture(size, 1) {
			room[100+i] = b
		}
		before := slices.Clone(room)
		b := room[100 : 100+size]
		askNoRead(t, script.New(b), size+1, api.ErrSpent)
		askNotFilled(t, script.New(b), size+1, api.ErrSpent)
		askNotBelow(t, script.New(b), full(size/8+1), api.ErrSpent)
		got, e := script.New(b).Read(size)
		if e != api.OK || !bytes.Equal(got, b) {
			t.Fatalf("Read(%d): %d, error %d, not %d", size, got, e, b)
		}
		clear(got[:cap(got)])
		if !bytes.Equal(room, before) {
			t.Fatalf("%d bytes are changed, or what is beside them", size)
		}
	}
}

// P15.2
func TestRead(t *testing.T) {
	b := mixture(100, 2)
	for _, at := range []int{0, 1, 2, 50, 98, 99, 100} {
		ready := func() *script.Script {
			s := script.New(b)
			askRead(t, s, at, b[:at])
			if s.Left() != 100-at {
				t.Fatalf("%d bytes are left, not %d", s.Left(), 100-at)
			}
			return s
		}
		for n := range 101 - at {
			s := ready()
			askRead(t, s, n, b[at:at+n])
			askLeft(t, s, b[at+n:])
		}
		for _, n := range append([]int{101 - at, 102 - at, 101, 200, 256, 1000}, tooMany...) {
			s := ready()
			askNoRead(t, s, n, api.ErrSpent)
			askLeft(t, s, nil)
		}
		for _, n := range belowNought {
			s := ready()
			askNoRead(t, s, n, api.ErrRange)
			askLeft(t, s, b[at:])
		}
	}
}

// P15.2: behind ErrSpent there is nothing, also for what there would have been bytes enough.
func TestSpentStaysSpent(t *testing.T) {
	for _, spend := range []func(s *script.Script) api.Errno{
		func(s *script.Script) api.Errno { _, e := s.Read(5); return e },
		func(s *script.Script) api.Errno { _, e := s.Filled(5); return e },
		func(s *script.Script) api.Errno { _, _, e := s.Below(api.Nat{0, 1}); return e },
	} {
		s := script.New([]byte{1, 2, 3, 4})
		if e := spend(s); e != api.ErrSpent || s.Left() != 0 {
			t.Errorf("error %d, %d bytes are left", e, s.Left())
		}
		askNoRead(t, s, 1, api.ErrSpent)
		askNotFilled(t, s, 1, api.ErrSpent)
		askNotBelow(t, s, api.Nat{5}, api.ErrSpent)
		askNoRead(t, s, -1, api.ErrRange)
		askNotFilled(t, s, -1, api.ErrRange)
		askRead(t, s, 0, nil)
		askFilled(t, s, 0, nil)
		askLeft(t, s, nil)
	}
}

// P15.3
func TestFilled(t *testing.T) {
	for _, c := range []struct {
		laid []byte
		n    int
		want []byte
		left []byte
	}{
		{nil, 0, nil, nil},
		{[]byte{1}, 0, nil, []byte{1}},
		{[]byte{0}, 0, nil, []byte{0}},
		{[]byte{0, 0, 1}, 0, nil, []byte{0, 0, 1}},
		{[]byte{1}, 1, []byte{1}, nil},
		{[]byte{255}, 1, []byte{255}, nil},
		{[]byte{128, 1}, 1, []byte{128}, []byte{1}},
		{[]byte{1, 2, 3}, 2, []byte{1, 2}, []byte{3}},
		{[]byte{1, 2, 3}, 3, []byte{1, 2, 3}, nil},
		{[]byte{0, 1}, 1, []byte{1}, nil},
		{[]byte{0, 0, 0, 1, 2}, 1, []byte{1}, []byte{2}},
		{[]byte{1, 0}, 1, []byte{1}, []byte{0}},
		{[]byte{1, 0, 0, 2}, 1, []byte{1}, []byte{0, 0, 2}},
		{[]byte{1, 0, 0, 2}, 2, []byte{1, 2}, nil},
		{[]byte{1, 0, 0, 2, 0, 0}, 2, []byte{1, 2}, []byte{0, 0}},
		{[]byte{0, 1, 0, 2, 0, 3, 0, 4}, 3, []byte{1, 2, 3}, []byte{0, 4}},
		{[]byte{7, 7, 7, 7}, 4, []byte{7, 7, 7, 7}, nil},
	} {
		s := script.New(c.laid)
		askFilled(t, s, c.n, c.want)
		askLeft(t, s, c.left)
	}
}

// P15.3: all bytes but 0 come through.
func TestFilledOfAllBytes(t *testing.T) {
	all := make([]byte, 256)
	for i := range all {
		all[i] = byte(i)
	}
	s := script.New(all)
	askFilled(t, s, 255, all[1:])
	askLeft(t, s, nil)
	slices.Reverse(all)
	s = script.New(all)
	askFilled(t, s, 255, all[:255])
	askLeft(t, s, []byte{0})
}

// P15.3
func TestFilledIsSpent(t *testing.T) {
	for _, laid := range [][]byte{nil, {0}, {0, 0, 0, 0}, {1}, {1, 2, 3}, {0, 1}, {1, 0}, {1, 0, 2}, {0, 0, 5, 0, 6, 0, 0}, mixture(200, 3)} {
		filled := len(laid) - bytes.Count(laid, []byte{0})
		for _, n := range append([]int{filled + 1, filled + 2, len(laid) + 1}, tooMany...) {
			s := script.New(laid)
			askNotFilled(t, s, n, api.ErrSpent)
			askLeft(t, s, nil)
		}
		for _, n := range belowNought {
			s := script.New(laid)
			askNotFilled(t, s, n, api.ErrRange)
			askLeft(t, s, laid)
		}
	}
}

// laid puts bytes of some lists one behind the other.
func laid(lists ...[]byte) []byte { return slices.Concat(lists...) }

// alike has n bytes of one kind.
func alike(b byte, n int) []byte { return bytes.Repeat([]byte{b}, n) }

// P15.4
func TestBelow(t *testing.T) {
	for _, c := range []struct {
		laid  []byte
		m     api.Nat
		want  api.Nat
		draws int
		left  []byte
	}{
		// Of 2 there is 1 alone, of two bits.
		{[]byte{1}, api.Nat{2}, api.Nat{1}, 1, nil},
		{[]byte{0, 2, 3, 1, 1}, api.Nat{2}, api.Nat{1}, 4, []byte{1}},
		{[]byte{0xfc, 0xfe, 0xff, 0xfd}, api.Nat{2}, api.Nat{1}, 4, nil},
		{[]byte{3, 2}, api.Nat{3}, api.Nat{2}, 2, nil},
		{[]byte{0, 3, 7, 5, 1}, api.Nat{3}, api.Nat{1}, 4, []byte{1}},
		// Bits above the highest don't count, all those below do.
		{[]byte{0xf8, 0xfd, 0xff, 0xfc, 0}, api.Nat{5}, api.Nat{4}, 4, []byte{0}},
		{[]byte{4, 3}, api.Nat{4}, api.Nat{3}, 2, nil},
		{[]byte{7, 6}, api.Nat{7}, api.Nat{6}, 2, nil},
		{[]byte{8, 0xf7}, api.Nat{8}, api.Nat{7}, 2, nil},
		// Just full bytes, and one bit more.
		{[]byte{127, 0}, api.Nat{128}, api.Nat{127}, 1, []byte{0}},
		{[]byte{0, 255, 254, 9}, api.Nat{255}, api.Nat{254}, 3, []byte{9}},
		{[]byte{128, 129, 255, 1}, api.Nat{128}, api.Nat{1}, 4, nil},
		{[]byte{1, 0, 0, 255, 9}, api.Nat{256}, api.Nat{255}, 2, []byte{9}},
		{[]byte{0, 0, 0xfe, 0, 0xfe, 1}, api.Nat{256}, api.Nat{1}, 3, nil},
		{[]byte{1, 1, 1, 0}, api.Nat{257}, api.Nat{256}, 2, nil},
		{[]byte{255, 255, 255, 254}, api.Nat{65535}, api.Nat{65534}, 2, nil},
		{[]byte{1, 0, 0, 0, 255, 255, 0xfe, 1, 2}, api.Nat{65536}, api.Nat{65535}, 2, []byte{0xfe, 1, 2}},
		{[]byte{0xfe, 1, 2}, api.Nat{65536}, api.Nat{258}, 1, nil},
		{laid(alike(255, 8), alike(255, 7), []byte{254, 1}), api.Nat{top}, api.Nat{top - 1}, 2, []byte{1}},
		{laid([]byte{128}, alike(0, 7), []byte{127}, alike(255, 7)), api.Nat{1 << 63}, api.Nat{1<<63 - 1}, 2, nil},
		{laid([]byte{1}, alike(0, 8), []byte{0}, alike(255, 8)), api.Nat{0, 1}, api.Nat{top, 0}, 2, nil},
		{laid([]byte{0xfe}, alike(0, 7), []byte{5}), api.Nat{0, 1}, api.Nat{5, 0}, 1, nil},
		{[]byte{3, 1, 2, 3, 4, 5, 6, 7, 8, 1, 1, 2, 3, 4, 5, 6, 7, 8}, api.Nat{0x0102030405060708, 3}, api.Nat{0x0102030405060708, 1}, 2, nil},
		// The words above decide, whatever those below are.
		{laid([]byte{2}, alike(0, 7), []byte{1}, []byte{1}, alike(255, 8)), api.Nat{0, 2}, api.Nat{top, 1}, 2, nil},
	} {
		s := script.New(c.laid)
		askBelow(t, s, c.m, c.want, c.draws)
		askLeft(t, s, c.left)
		// Noughts at m's top are in the answer, and take no bytes.
		s = script.New(c.laid)
		askBelow(t, s, append(slices.Clone(c.m), 0, 0, 0), append(slices.Clone(c.want), 0, 0, 0), c.draws)
		askLeft(t, s, c.left)
	}
}

// P15.4 of numbers of MaxWords words, and of small ones in so many.
func TestBelowOfMostWords(t *testing.T) {
	all := full(300)
	least := full(300)
	least[0]--
	s := script.New(laid(alike(255, 2400), alike(0, 2400), alike(255, 2399), []byte{254, 9}))
	askBelow(t, s, all, least, 3)
	askLeft(t, s, []byte{9})

	s = script.New(laid([]byte{128}, alike(0, 2399), []byte{127}, alike(255, 2399)))
	half := full(300)
	half[299] = 1<<63 - 1
	askBelow(t, s, single(300, 299, 1<<63), half, 2)
	askLeft(t, s, nil)

	s = script.New(laid([]byte{0xff}, alike(0, 2392), []byte{0xfe}, alike(0, 2391), []byte{1}))
	askBelow(t, s, single(300, 299, 1), single(300, 0, 1), 2)
	askLeft(t, s, nil)

	s = script.New([]byte{255, 3, 4})
	askBelow(t, s, single(300, 0, 5), single(300, 0, 3), 2)
	askLeft(t, s, []byte{4})
}

// P15.4: all draws of small numbers, of one byte.
func TestBelowOfAllDraws(t *testing.T) {
	for m := 2; m < 256; m++ {
		size := 1
		for size <= m {
			size *= 2
		}
		for b := range 256 {
			s := script.New([]byte{byte(b)})
			if x := b % size; 0 < x && x < m {
				askBelow(t, s, api.Nat{uint64(m)}, api.Nat{uint64(x)}, 1)
			} else {
				askNotBelow(t, s, api.Nat{uint64(m)}, api.ErrSpent)
			}
			if s.Left() != 0 {
				t.Errorf("Below(%d): %d bytes are left", m, s.Left())
			}
		}
	}
}

// P15.4: as many bytes are read as m needs, no more, no fewer, at each number of bits.
func TestBelowReadsWhatItNeeds(t *testing.T) {
	for bit := 1; bit < 64*300; bit++ {
		m := single(300, bit/64, 1<<(bit%64))
		size := bit/8 + 1
		one := laid(alike(0, size-1), []byte{1})
		s := script.New(laid(alike(0, size), one, []byte{8, 9}))
		askBelow(t, s, m, single(300, 0, 1), 2)
		askLeft(t, s, []byte{8, 9})
		s = script.New(one[1:])
		askNotBelow(t, s, m, api.ErrSpent)
		askLeft(t, s, nil)
	}
}

// P15.4, P4: ErrLong by the words that m has, ErrRange by what it is; neither reads a byte.
func TestBelowRefuses(t *testing.T) {
	for _, b := range [][]byte{nil, {1}, {255, 3}, mixture(3000, 4)} {
		for _, m := range tooLong() {
			s := script.New(b)
			askNotBelow(t, s, m, api.ErrLong)
			askLeft(t, s, b)
		}
		for _, m := range tooSmall() {
			s := script.New(b)
			askNotBelow(t, s, m, api.ErrRange)
			askLeft(t, s, b)
		}
	}
}

// P15.4: bytes that run out, at once or behind draws that were refused; none are left, also if there were some, but too few.
func TestBelowIsSpent(t *testing.T) {
	for _, c := range []struct {
		laid []byte
		m    api.Nat
	}{
		{nil, api.Nat{2}},
		{[]byte{0}, api.Nat{2}},
		{[]byte{2, 3, 0, 2}, api.Nat{2}},
		{[]byte{5, 6, 7, 0, 255}, api.Nat{5}},
		{[]byte{1}, api.Nat{256}},
		{[]byte{0, 0, 1}, api.Nat{256}},
		{[]byte{1, 0, 1, 1, 1, 255, 0}, api.Nat{256}},
		{alike(1, 7), api.Nat{top}},
		{alike(0, 15), api.Nat{top, 0, 0}},
		{alike(255, 7), api.Nat{1 << 63}},
		{alike(1, 8), api.Nat{0, 1}},
		{alike(255, 2399), full(300)},
		{alike(255, 4799), full(300)},
		{alike(0, 100000), api.Nat{3}},
	} {
		s := script.New(c.laid)
		askNotBelow(t, s, c.m, api.ErrSpent)
		askLeft(t, s, nil)
	}
}

// P15.4: very many draws are counted.
func TestManyDraws(t *testing.T) {
	s := script.New(laid(alike(0, 70000), []byte{1, 9}))
	askBelow(t, s, api.Nat{2, 0}, api.Nat{1, 0}, 70001)
	askLeft(t, s, []byte{9})
}

// P2: a number stands in a list with more behind it, of which nothing may be read, written or handed out.
func TestBelowWithRoom(t *testing.T) {
	for _, m := range []api.Nat{{}, {0}, {1}, {2}, {5}, {5, 0}, {0, 1}, {top, top, 0}, single(299, 298, 77), full(300), full(301)} {
		room := full(len(m) + 50)
		copy(room[20:], m)
		before := slices.Clone(room)
		b := mixture(6000, 5)
		got, draws, e := script.New(b).Below(room[20 : 20+len(m)])
		if !slices.Equal(room, before) {
			t.Fatalf("Below(%x) changes it or what is beside it", m)
		}
		want, many, same := script.New(b).Below(slices.Clip(slices.Clone(m)))
		if !slices.Equal(got, want) || draws != many || e != same {
			t.Errorf("Below(%x) hangs on what is beside it", m)
		}
		clear(got[:cap(got)])
		if !slices.Equal(room, before) {
			t.Errorf("Below(%x) shares memory with it", m)
		}
	}
}

// P2: whoever changes an answer changes neither the script nor another answer.
func TestAnswersAreNew(t *testing.T) {
	b := laid([]byte{1, 2, 3, 4}, []byte{0, 5, 6}, alike(1, 16), []byte{255, 3}, []byte{7, 8, 9})
	s := script.New(b)
	read := func(n int, want ...byte) []byte {
		got, e := s.Read(n)
		if e != api.OK || !bytes.Equal(got, want) {
			t.Errorf("Read(%d): %d, error %d, not %d", n, got, e, want)
		}
		return got
	}
	one, other := read(2, 1, 2), read(2, 3, 4)
	none := read(0)
	for i := range one[:cap(one)] {
		one[:cap(one)][i] = 99
	}
	_ = append(none[:cap(none)], 99, 99, 99)
	if !bytes.Equal(other, []byte{3, 4}) {
		t.Errorf("an answer is changed by another one: %d", other)
	}
	filled, e := s.Filled(2)
	if e != api.OK || !bytes.Equal(filled, []byte{5, 6}) {
		t.Errorf("Filled(2): %d, error %d", filled, e)
	}
	_ = append(filled[:0], 99, 99, 99, 99)
	x, _, e := s.Below(api.Nat{0, 1 << 63})
	if e != api.OK {
		t.Errorf("error %d", e)
	}
	clear(x[:cap(x)])
	y, _, e := s.Below(api.Nat{5})
	if e != api.OK || !slices.Equal(y, api.Nat{3}) {
		t.Errorf("Below(5): %d, error %d", y, e)
	}
	last := read(3, 7, 8, 9)
	clear(filled[:cap(filled)])
	if !slices.Equal(y, api.Nat{3}) || !bytes.Equal(last, []byte{7, 8, 9}) || !bytes.Equal(other, []byte{3, 4}) {
		t.Error("an answer is changed by another one")
	}
}
