package key_test

import (
	"slices"
	"testing"

	"sconce/api"
	"sconce/key"
)

// rightExponents may be the public half of a key, wrongExponents may not.
var (
	rightExponents = []uint64{3, 5, 7, 9, 17, 257, 65537, 1<<31 - 1, 1<<31 + 1, 1<<32 - 5, 1<<32 - 3, 1<<32 - 1}
	wrongExponents = []uint64{0, 1, 2, 4, 6, 16, 65536, 65538, 1 << 31, 1<<32 - 2, 1 << 32, 1<<32 + 1, 1<<32 + 2, 1<<32 + 3, 1<<33 + 1, 1<<63 + 1, top - 1, top}
)

// rightModuli may be a key's modulus.
func rightModuli() []api.Nat {
	list := []api.Nat{{1<<31 + 1}, {1<<31 + 3}, {1<<32 - 1}, {1<<32 + 1}, {1<<33 - 1}, {1<<62 + 1}, {1<<63 + 1}, {top}, {1, 1}, {top, 1}, full(2), full(3), full(16), full(127), full(128)}
	for _, width := range []int{32, 33, 34, 63, 64, 65, 128, 129, 1024, 8127, 8128, 8129, 8190, 8191, 8192} {
		list = append(list, ones(width, 1), someOdd(spread(uint64(width)), width))
	}
	for _, width := range []int{33, 64, 65, 8191, 8192} {
		list = append(list, less(more(power(width-1), api.Nat{2}), 1)[:(width+63)/64])
	}
	return list
}

// wrongModuli may not, whatever e is.
func wrongModuli() []api.Nat {
	list := []api.Nat{nil, {}, {0}, {1}, {2}, {3}, {0, 0}, {1, 0}, {1<<16 + 1}, {1<<30 + 1}, {1<<31 - 2}, {1<<31 - 1}, {1 << 31}, {1 << 32}, {1<<32 - 2}, {0, 1}, {2, 1}, {top - 1}, full(129), full(130), full(131), full(300), full(301), full(1000), make(api.Nat, 128), make(api.Nat, 301), make(api.Nat, 5000)}
	for _, width := range []int{1, 2, 16, 30, 31, 8193, 8194, 8256, 8257, 9000, 64 * 300, 64*300 + 1} {
		list = append(list, ones(width, 1), someOdd(spread(uint64(width)), width), more(power(width-1), api.Nat{1})[:(width+63)/64])
	}
	for _, n := range rightModuli() {
		even := slices.Clone(n)
		even[0]--
		list = append(list, even, longer(n, 1), longer(n, 2), longer(n, 301-len(n)), append(api.Nat{0}, n...))
	}
	return list
}

// askPublic asks what Public tells.
func askPublic(t *testing.T, n api.Nat, e uint64, want api.Errno) {
	t.Helper()
	if got := key.Public(n, e); got != want {
		t.Errorf("Public(%x, %d): %d, not %d", n, e, got, want)
	}
}

// P19.1: each modulus with each exponent, of which both must be right.
func TestPublic(t *testing.T) {
	for _, e := range rightExponents {
		for _, n := range rightModuli() {
			askPublic(t, n, e, api.OK)
		}
		for _, n := range wrongModuli() {
			askPublic(t, n, e, api.ErrKey)
		}
	}
	for _, e := range wrongExponents {
		for _, n := range slices.Concat(rightModuli(), wrongModuli()) {
			askPublic(t, n, e, api.ErrKey)
		}
	}
}

// P19.1 against the chapter's words, of numbers about the edges of bits and words.
func TestPublicAgainstWords(t *testing.T) {
	next := spread(1)
	took := 0
	for width := 1; width < 8300; width += 1 + width/40 {
		for _, noughts := range []int{0, 0, 0, 1} {
			n := longer(someOdd(next, width), noughts)
			n[0] ^= next() % 4 / 3
			e := next() >> (next() % 64)
			if next()%4 > 0 {
				e = e%(1<<32) | 1
			}
			want := api.ErrKey
			if plainPublic(n, e) {
				want = api.OK
				took++
			}
			askPublic(t, n, e, want)
		}
	}
	if took < 100 {
		t.Errorf("only %d of them are taken", took)
	}
}

// P2: n stands in a list with more around it, of which nothing is read or written.
func TestPublicLeavesAll(t *testing.T) {
	for _, n := range slices.Concat(rightModuli(), wrongModuli()) {
		for _, beside := range []uint64{0, 1, top} {
			all, piece := room(n, beside)
			before := slices.Clone(all)
			askPublic(t, piece, 65537, key.Public(n, 65537))
			if !slices.Equal(all, before) {
				t.Fatalf("%x or what is beside it is changed", n)
			}
		}
	}
}

// P19.4 in numbers written out.
func TestSize(t *testing.T) {
	for _, c := range []struct {
		n    api.Nat
		want int
	}{
		{nil, 0}, {api.Nat{}, 0}, {api.Nat{0}, 0}, {api.Nat{0, 0}, 0}, {make(api.Nat, 301), 0},
		{api.Nat{1}, 1}, {api.Nat{2}, 1}, {api.Nat{127}, 1}, {api.Nat{128}, 1}, {api.Nat{255}, 1},
		{api.Nat{256}, 2}, {api.Nat{257}, 2}, {api.Nat{65535}, 2}, {api.Nat{65536}, 3},
		{api.Nat{255, 0}, 1}, {api.Nat{256, 0, 0}, 2}, {longer(api.Nat{255}, 400), 1},
		{api.Nat{1<<32 - 1}, 4}, {api.Nat{1 << 32}, 5}, {api.Nat{1<<56 - 1}, 7}, {api.Nat{1 << 56}, 8}, {api.Nat{top}, 8},
		{api.Nat{0, 1}, 9}, {api.Nat{0, 255}, 9}, {api.Nat{0, 256}, 10}, {api.Nat{0, 0, 1}, 17}, {api.Nat{0, 1, 0}, 9},
		{full(128), 1024}, {append(full(128), 1), 1025}, {full(300), 2400}, {full(301), 2408}, {full(5000), 40000}, {longer(full(5000), 7), 40000},
	} {
		if got := key.Size(c.n); got != c.want {
			t.Errorf("Size(%x): %d, not %d", c.n, got, c.want)
		}
	}
}

// P19.4: each number of bits, at its least and its greatest, with noughts at the top and without; n is left as it is.
func TestSizeOfBits(t *testing.T) {
	for width := 1; width <= 1200; width++ {
		want := width / 8
		if width%8 > 0 {
			want++
		}
		for _, x := range []api.Nat{power(width - 1), ones(width, 1), longer(power(width-1), 3)} {
			all, piece := room(x, top)
			before := slices.Clone(all)
			if got := key.Size(piece); got != want {
				t.Errorf("Size(%x): %d, not %d", x, got, want)
			}
			if !slices.Equal(all, before) {
				t.Fatalf("%x or what is beside it is changed", x)
			}
		}
	}
}
