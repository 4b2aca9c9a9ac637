package key_test

import (
	"slices"
	"testing"

	"sconce/api"
	"sconce/key"
)

// askCommon asks for the number that Common answers, in as few words as it needs, in both orders.
func askCommon(t *testing.T, p, q, want api.Nat) {
	t.Helper()
	for _, c := range [][2]api.Nat{{p, q}, {q, p}} {
		if got, e := key.Common(c[0], c[1]); e != api.OK || !slices.Equal(got, want) {
			t.Errorf("Common(%x, %x): %x, %d, not %x", c[0], c[1], got, e, want)
		}
	}
}

// askNoCommon asks for an error, and nothing beside it, in both orders.
func askNoCommon(t *testing.T, p, q api.Nat, want api.Errno) {
	t.Helper()
	for _, c := range [][2]api.Nat{{p, q}, {q, p}} {
		if got, e := key.Common(c[0], c[1]); e != want || len(got) != 0 {
			t.Errorf("Common of %d words (%x..) and %d words (%x..): %x, %d, not %d", len(c[0]), c[0][:min(len(c[0]), 2)], len(c[1]), c[1][:min(len(c[1]), 2)], got, e, want)
		}
	}
}

// P19.5 in numbers written out, and the chapter's example.
func TestCommon(t *testing.T) {
	for _, c := range []struct{ p, q, want api.Nat }{
		{api.Nat{7}, api.Nat{11}, api.Nat{30}},
		{api.Nat{2}, api.Nat{2}, api.Nat{1}},
		{api.Nat{2}, api.Nat{3}, api.Nat{2}},
		{api.Nat{2}, api.Nat{0, 1}, api.Nat{top}},
		{api.Nat{2}, api.Nat{1, 1}, api.Nat{0, 1}},
		{api.Nat{3}, api.Nat{3}, api.Nat{2}},
		{api.Nat{4}, api.Nat{3}, api.Nat{6}},
		{api.Nat{6}, api.Nat{8}, api.Nat{35}},
		{api.Nat{13}, api.Nat{19}, api.Nat{36}},
		{api.Nat{13, 0}, api.Nat{19, 0, 0}, api.Nat{36}},
		{longer(api.Nat{13}, 129), api.Nat{19}, api.Nat{36}},
		{longer(api.Nat{13}, 129), longer(api.Nat{19}, 129), api.Nat{36}},
		{api.Nat{65521}, api.Nat{65537}, api.Nat{268369920}},
		{api.Nat{65537}, api.Nat{98305}, api.Nat{196608}},
		{api.Nat{65537}, api.Nat{65537}, api.Nat{65536}},
		{api.Nat{1<<63 + 1}, api.Nat{1<<62 + 1}, api.Nat{1 << 63}},
		{api.Nat{1<<63 + 1}, api.Nat{4}, api.Nat{1 << 63, 1}},
		{api.Nat{1, 1}, api.Nat{1<<63 + 1}, api.Nat{0, 1}},
		{api.Nat{1, 1}, api.Nat{1, 0, 1}, api.Nat{0, 0, 1}},
		{api.Nat{top}, api.Nat{top, 0}, api.Nat{top - 1}},
		{api.Nat{0, 1}, api.Nat{top}, api.Nat{2, top - 2}},
		{full(130), api.Nat{2}, less(full(130), 1)},
		{full(130), full(130), less(full(130), 1)},
		// What divides both less 1 divides what is between them, 2^64 - 1, no prime of which divides 2^8319 - 1: they have none together.
		{full(130), append(api.Nat{0}, full(129)...), cut(slowMul(less(full(130), 1), less(append(api.Nat{0}, full(129)...), 1)))},
	} {
		askCommon(t, c.p, c.q, c.want)
	}
}

// P19.5 of each small p and q, by the definition alone: the first number that both divide.
func TestCommonOfEach(t *testing.T) {
	for p := uint64(0); p < 90; p++ {
		for q := uint64(0); q <= p; q++ {
			if q < 2 {
				askNoCommon(t, api.Nat{p}, api.Nat{q}, api.ErrRange)
				continue
			}
			want := p - 1
			for want%(q-1) != 0 {
				want += p - 1
			}
			askCommon(t, api.Nat{p}, api.Nat{q}, api.Nat{want})
		}
	}
}

// P19.5 against a divisor reckoned by taking away, of numbers of many lengths whose less-one's have divisors together.
func TestCommonAgainstWords(t *testing.T) {
	next := spread(11)
	plain := 0
	for _, a := range []int{1, 2, 3, 8, 65, 128, 130} {
		for _, b := range []int{1, 2, 5, 64, 129, 130} {
			p, q := someWords(next, a), someWords(next, b)
			askCommon(t, p, q, plainCommon(p, q))
			if isOne(slowDivisor(less(p, 1), less(q, 1))) {
				plain++
			}
			askCommon(t, longer(p, 130-a), q, plainCommon(p, q))
			if a+b < 130 {
				both := someWords(next, min(a, b))
				x, y := more(cut(slowMul(p, both)), api.Nat{1}), more(cut(slowMul(q, both)), api.Nat{1})
				askCommon(t, x, y, plainCommon(x, y))
				multiple := cut(slowMul(less(p, 1), both))
				askCommon(t, p, more(multiple, api.Nat{1}), multiple)
			}
		}
	}
	if plain == 0 {
		t.Error("all of them have divisors together")
	}
}

// P19.5: what is below 2, and what has too many words, each alone and both together; noughts at the top are words, too.
func TestCommonErrors(t *testing.T) {
	below := []api.Nat{nil, {}, {0}, {1}, {0, 0}, {1, 0}, make(api.Nat, 130), longer(api.Nat{1}, 129)}
	belowAndLong := []api.Nat{make(api.Nat, 131), longer(api.Nat{1}, 130), make(api.Nat, 301), longer(api.Nat{1}, 5000)}
	right := []api.Nat{{2}, {3}, {65537}, {0, 1}, longer(api.Nat{2}, 129), full(130)}
	long := []api.Nat{longer(api.Nat{2}, 130), longer(api.Nat{65537}, 130), full(131), single(131, 130, 1), longer(full(130), 1), full(300), full(301), longer(api.Nat{3}, 300), full(1000)}
	for _, x := range slices.Concat(below, belowAndLong) {
		for _, y := range slices.Concat(below, belowAndLong, right, long) {
			askNoCommon(t, x, y, api.ErrRange)
		}
	}
	for _, x := range long {
		for _, y := range slices.Concat(right, long) {
			askNoCommon(t, x, y, api.ErrLong)
		}
	}
	for _, x := range right {
		for _, y := range right {
			askCommon(t, x, y, plainCommon(x, y))
		}
	}
}

// P2: p and q stand in lists with more around them, of which nothing is read or written, and the answer is new memory.
func TestCommonSharesNothing(t *testing.T) {
	for _, c := range [][2]api.Nat{
		{{7}, {11}}, {{2}, {65537}}, {{65537}, {2}}, {{2}, {2}}, {{3}, {3}}, {{1, 1}, {3, 0}}, {full(3), full(3)}, {full(130), {2}}, {{5, 0}, {5}},
		{{1}, {7}}, {nil, {7}}, {longer(api.Nat{7}, 130), {7}}, {{7}, full(131)},
	} {
		all, p := room(c[0], top)
		rest, q := room(c[1], 0)
		before, behind := slices.Clone(all), slices.Clone(rest)
		first, wrong := key.Common(p, q)
		kept := slices.Clone(first)
		spoil(first)
		again, e := key.Common(p, q)
		if !slices.Equal(again, kept) || e != wrong {
			t.Errorf("Common(%x, %x): %x, %d, then %x, %d", p, q, kept, wrong, again, e)
		}
		if !slices.Equal(all, before) || !slices.Equal(rest, behind) {
			t.Errorf("%x, %x or what is beside them is changed", p, q)
		}
	}
	_, x := room(full(2), 5)
	got, e := key.Common(x, x)
	if e != api.OK || !slices.Equal(got, less(full(2), 1)) || !slices.Equal(x, full(2)) {
		t.Errorf("Common of one list twice: %x, %d", got, e)
	}
}
