package mgf_test

import (
	"bytes"
	"encoding/hex"
	"math"
	"slices"
	"testing"

	"sconce/api"
	"sconce/hash"
	"sconce/mgf"
)

// longest is how many bytes a mask may have.
const longest = 10000

var allHashes = []int{1, 2, 3}

// noHashes are numbers that are no hash's, also some whose lowest bits are those of one.
var noHashes = []int{0, -1, -2, -3, 4, 5, 32, 48, 64, 130, 255, 257, 1<<16 + 1, 1<<32 + 1,
	math.MinInt, math.MinInt + 1, math.MinInt32 + 2, math.MaxInt32, math.MaxInt - 1, math.MaxInt}

var belowNought = []int{-1, -2, -32, -10000, -10001, math.MinInt32, math.MinInt + 1, math.MinInt}

var aboveLongest = []int{10001, 10002, 10016, 20000, 65536, 1 << 20, math.MaxInt32, 1 << 32, 1<<32 + 5, math.MaxInt - 1, math.MaxInt}

// counting has n bytes: 0, 1, 2 and so on, from 0 again behind 255.
func counting(n int) []byte {
	b := make([]byte, n)
	for i := range b {
		b[i] = byte(i)
	}
	return b
}

// mixture has n bytes that are spread, others for each start.
func mixture(n int, start uint64) []byte {
	b := make([]byte, n)
	w := 0x9e3779b97f4a7c15 * (2*start + 1)
	for i := range b {
		w ^= w << 13
		w ^= w >> 7
		w ^= w << 17
		b[i] = byte(w >> 32)
	}
	return b
}

// seeds are none, short ones, and those that end at the edges of hashes' blocks of 64 and 128 bytes, alone or with the count and what a hash lays behind it.
func seeds() [][]byte {
	list := [][]byte{nil, {}, {0}, {255}, {0, 0, 0, 0}, []byte("bar"), []byte("foo"), bytes.Repeat([]byte{255}, 40)}
	for _, n := range []int{31, 32, 33, 47, 48, 51, 52, 55, 56, 59, 60, 61, 63, 64, 65, 107, 108, 111, 112, 115, 116,
		123, 124, 125, 127, 128, 129, 188, 192, 252, 256, 1000} {
		list = append(list, mixture(n, uint64(n)))
	}
	return list
}

// lengths are those at and around one, two and more hashes of so many bytes, up to the longest.
func lengths(size int) []int {
	list := []int{0, 1, 2, 3, 4, longest - 1, longest}
	for _, many := range []int{1, 2, 3, 4, 7, 16, 100, longest / size} {
		list = append(list, many*size-1, many*size, many*size+1)
	}
	return list
}

// byHand is a mask whose counts are spelt byte by byte.
func byHand(t *testing.T, h int, seed []byte, n int) []byte {
	t.Helper()
	out := []byte{}
	for count := 0; len(out) < n; count++ {
		whole := append([]byte{}, seed...)
		whole = append(whole, 0, 0, byte(count/256), byte(count%256))
		sum, e := hash.Sum(h, whole)
		if e != api.OK || len(sum) != hash.Size(h) || len(sum) == 0 {
			t.Fatalf("Sum(%d): %x, error %d", h, sum, e)
		}
		out = append(out, sum...)
	}
	return out[:n]
}

// maskOf is what Mask answers where it should answer n bytes.
func maskOf(t *testing.T, h int, seed []byte, n int) []byte {
	t.Helper()
	got, e := mgf.Mask(h, seed, n)
	if e != api.OK || len(got) != n {
		t.Fatalf("Mask(%d, %d bytes, %d): %d bytes, error %d", h, len(seed), n, len(got), e)
	}
	return got
}

// askError asks that a mask is refused with an error, and nothing beside it.
func askError(t *testing.T, h int, seed []byte, n int, want api.Errno) {
	t.Helper()
	if got, e := mgf.Mask(h, seed, n); e != want || len(got) != 0 {
		t.Errorf("Mask(%d, %d bytes, %d): %d bytes, error %d, not %d", h, len(seed), n, len(got), e, want)
	}
}

// P14.1: the chapter's example.
func TestExample(t *testing.T) {
	if got := hex.EncodeToString(maskOf(t, 1, []byte(""), 4)); got != "df3f6198" {
		t.Error(got)
	}
}

// P14.1: masks that are known.
func TestKnownMasks(t *testing.T) {
	for _, c := range []struct {
		seed []byte
		want [3]string
	}{
		{nil, [3]string{
			"df3f619804a92fdb4057192dc43dd748ea778adc52bc498ce80524c014b81119b40711a88c7039756fb8a73827eabe2c0fe5a0346ca7e0a104adc0fc764f528d433ebf5bc03dffa38536673207a21281612cef5faa9bc7a4d5b9be2fdb12cf1a88185d12",
			"394341b7182cd227c5c6b07ef8000cdfd86136c4292b8e576573ad7ed9ae41019f5818b4b971c9effc60e1ad9f1289f014d0dce7a18d3ff1fb2d2d575d0d0137a9f6a5b12eb046887bd46e94e0f615adfce9f086700c27ed4feceb5da50cc162b486053f",
			"ec2d57691d9b2d40182ac565032054b7d784ba96b18bcb5be0bb4e70e3fb041eff582c8af66ee50256539f2181d7f9e53627c0189da7e75a4d5ef10ea93b20b357c365278e08f99674dd24f08425b17c71b0511dea3b5ffa474deeb26d64cb993ebda465",
		}},
		{[]byte("bar"), [3]string{
			"382576a7841021cc28fc4c0948753fb8312090cea942ea4c4e735d10dc724b155f9f6069f289d61daca0cb814502ef04eae152ff9542f8127ff412e4f0ebde1b39014d8d650dd585383cad28137dcbb6182c5f8781ad9f42f468b07ee1bc6b3fdf762942",
			"301f6d57b4b67ac5d327aa8e564b1254b9a7828e300913d8486b2628e1d62285fb517d0b83f401e15f4d0d6fda8a9b9c8fbd054c23c8adc74ceba931631d432e76c904bdbdb1267c54b9f4d5c50b01c545e8ea54f66ed86ae596c0489edd2a467c494cb5",
			"8625c97145f50577911b25359975c8f942487e7aa0167e6db44239680d08547afcef6d3b7080cde5c1d9a8b17acfe7d95b9f8d776c5227e5ddd9801de41840f04afe273c2269e4d0bd4c99e363aeb55281eed2914c8f2826e682db474b73d9121d882cd5",
		}},
		{counting(64), [3]string{
			"926a33148745e412d1b93cfd3829786181935e93ebabb9ae5d42222fd2dfc8a23ebdb02262250f7376ca8cc04d2835b7ff9640fa05156321ffdb2263c912b13c4d433c369876a69931d3ccb0936c8c3b1c1b17e60383088a4445fb7a06446c5359dadfd0",
			"44314a9fe3328038ee69ddbd6f6c85b21eecc3aba5f41e3d0b5ae049ed77c77cdbe25142e51adfdc53160db3d2ad36a2938e886e4b5c5b71dfd6f80cdb34c389f03066525bec4b47c40a5e22f765dd98b20f1126fb194b89448467a46d3559982bf68cf7",
			"979043771043f4f8e0a2a19b1fbfbe5a8f076c2b5ac003e0b9619e0c45faf76747295734980602ec1d8d3cd249c165b7db62c976cb9075e35d94197c0f06e1f397a45017c508401d375ad0fa856da3dfed20847716755c6b03163aec2d9f43ebc2904f6e",
		}},
	} {
		for i, h := range allHashes {
			if got := hex.EncodeToString(maskOf(t, h, c.seed, 100)); got != c.want[i] {
				t.Errorf("Mask(%d, %q, 100): %s, not %s", h, c.seed, got, c.want[i])
			}
		}
	}
}

// P14.1: the ends of the longest masks, which hang on the right counts and on nothing being left out ahead of them.
func TestKnownEnds(t *testing.T) {
	for _, c := range []struct {
		seed []byte
		want [3]string
	}{
		{nil, [3]string{
			"62f5eb39c833319b054121f4f16c3dc01ea1fa5f",
			"8d696b06b4591aa669864b378e7cffbdbd375aea",
			"fd6123d513a0ac7c1c971770724307ae45d3c227"}},
		{[]byte("bar"), [3]string{
			"760a1527f227eb8d69c607aba5c1c532247add36",
			"c940bcc336c73267d838eba202d7dc4661be2385",
			"47f8d188ef24c10e5527a8134fad3d8f04260330"}},
		{counting(64), [3]string{
			"5bb15589c58c677bb4753955bf9c22c97afe96bd",
			"4c1cdab36e4ded2ae96aa204adfa69344ecb0ed4",
			"7cf32b3c5430edd3c130d6d8a4a44c1772396a98"}},
	} {
		for i, h := range allHashes {
			if got := hex.EncodeToString(maskOf(t, h, c.seed, longest)[longest-20:]); got != c.want[i] {
				t.Errorf("Mask(%d, %q, %d) ends with %s, not %s", h, c.seed, longest, got, c.want[i])
			}
		}
	}
}

// P14.1 against hashes put together by hand; of SHA-256 the longest masks take more than 256 of them.
func TestMaskByHand(t *testing.T) {
	for _, h := range allHashes {
		for _, seed := range seeds() {
			want := byHand(t, h, seed, longest)
			for _, n := range lengths(hash.Size(h)) {
				if got := maskOf(t, h, seed, n); !bytes.Equal(got, want[:n]) {
					t.Errorf("Mask(%d, %x, %d): %x, not %x", h, seed, n, got, want[:n])
				}
			}
		}
	}
}

// P14.1 of a seed that is longer than the longest mask: the limit is the mask's alone.
func TestLongSeed(t *testing.T) {
	seed := mixture(100000, 3)
	for _, h := range allHashes {
		if got, want := maskOf(t, h, seed, 300), byHand(t, h, seed, 300); !bytes.Equal(got, want) {
			t.Errorf("Mask(%d, 100000 bytes, 300): %x, not %x", h, got, want)
		}
	}
}

// P14.1, P4: of no hash ErrHash, whatever n is.
func TestNoHash(t *testing.T) {
	all := slices.Concat(belowNought, []int{0, 1, 32, 33, 1000, longest}, aboveLongest)
	for _, h := range noHashes {
		for _, n := range all {
			askError(t, h, nil, n, api.ErrHash)
			askError(t, h, []byte("bar"), n, api.ErrHash)
		}
	}
}

// P14.1
func TestLengthsThatMayNotBe(t *testing.T) {
	for _, h := range allHashes {
		for _, seed := range [][]byte{nil, {}, []byte("bar"), mixture(200, 1)} {
			for _, n := range belowNought {
				askError(t, h, seed, n, api.ErrRange)
			}
			for _, n := range aboveLongest {
				askError(t, h, seed, n, api.ErrLong)
			}
		}
	}
}

// P14.1: the edges themselves may be.
func TestLengthsAtTheEdges(t *testing.T) {
	for _, h := range allHashes {
		for _, seed := range [][]byte{nil, {}, []byte("bar")} {
			maskOf(t, h, seed, 0)
			maskOf(t, h, seed, longest)
		}
	}
}

// P14.2
func TestXor(t *testing.T) {
	for _, c := range []struct{ a, b, want []byte }{
		{nil, nil, nil},
		{nil, []byte{}, nil},
		{[]byte{}, nil, nil},
		{nil, []byte{1, 2, 3}, nil},
		{[]byte{}, []byte{1, 2, 3}, nil},
		{[]byte{1, 2, 3}, nil, []byte{1, 2, 3}},
		{[]byte{1, 2, 3}, []byte{}, []byte{1, 2, 3}},
		{[]byte{1, 2, 3}, []byte{1}, []byte{0, 2, 3}},
		{[]byte{1, 2, 3}, []byte{1, 1}, []byte{0, 3, 3}},
		{[]byte{1, 2, 3}, []byte{1, 2, 3}, []byte{0, 0, 0}},
		{[]byte{1, 2, 3}, []byte{255, 255, 255}, []byte{254, 253, 252}},
		{[]byte{1, 2, 3}, []byte{4, 8, 16, 32}, []byte{5, 10, 19}},
		{[]byte{0, 0, 0}, []byte{4, 8, 16, 32, 64}, []byte{4, 8, 16}},
		{[]byte{0xf0}, []byte{0x3c}, []byte{0xcc}},
	} {
		if got := mgf.Xor(c.a, c.b); !bytes.Equal(got, c.want) {
			t.Errorf("Xor(%d, %d): %d, not %d", c.a, c.b, got, c.want)
		}
	}
}

// bitwise is in which bits two bytes differ, asked bit by bit.
func bitwise(a, b byte) byte {
	var out byte
	for i := range 8 {
		if a>>i&1 != b>>i&1 {
			out += 1 << i
		}
	}
	return out
}

// P14.2 of all pairs of bytes.
func TestXorOfBytes(t *testing.T) {
	for a := range 256 {
		row := bytes.Repeat([]byte{byte(a)}, 256)
		for b, got := range mgf.Xor(row, counting(256)) {
			if want := bitwise(byte(a), byte(b)); got != want {
				t.Errorf("Xor of %d and %d: %d, not %d", a, b, got, want)
			}
		}
	}
}

// P14.2 of all pairs of lengths up to forty, and of long ones: Xor has no limit.
func TestXorOfLengths(t *testing.T) {
	type pair struct{ a, b int }
	pairs := []pair{{longest, longest + 1}, {longest + 1, longest}, {100000, 100000}, {100000, 70001}, {1, 100000}, {100000, 1}}
	for a := range 41 {
		for b := range 41 {
			pairs = append(pairs, pair{a, b})
		}
	}
	for _, p := range pairs {
		a, b := mixture(p.a, 1), mixture(p.b, 2)
		got := mgf.Xor(a, b)
		if len(got) != p.a {
			t.Fatalf("Xor of %d and %d bytes has %d", p.a, p.b, len(got))
		}
		for i := range got {
			want := a[i]
			if i < p.b {
				want = bitwise(a[i], b[i])
			}
			if got[i] != want {
				t.Fatalf("Xor of %d and %d bytes: byte %d is %d, not %d", p.a, p.b, i, got[i], want)
			}
		}
	}
}

// P14.3
func TestBeginnings(t *testing.T) {
	for _, h := range allHashes {
		for _, seed := range [][]byte{nil, []byte("bar"), mixture(60, 5), mixture(128, 6)} {
			whole := maskOf(t, h, seed, longest)
			for n := 0; n < longest; n += 1 + n/50 {
				if got := maskOf(t, h, seed, n); !bytes.Equal(got, whole[:n]) {
					t.Errorf("Mask(%d, %x, %d) is no beginning of the longest one", h, seed, n)
				}
			}
		}
	}
}

// P14.3
func TestXorTwice(t *testing.T) {
	for _, n := range []int{0, 1, 2, 31, 32, 33, 100, longest} {
		for _, many := range []int{0, 1, 2, 16, 32, 33, 99, 100, 101, longest, longest + 1} {
			a, b := mixture(n, 8), mixture(many, 9)
			if got := mgf.Xor(mgf.Xor(a, b), b); !bytes.Equal(got, a) {
				t.Errorf("%d bytes twice with %d: %x, not %x", n, many, got, a)
			}
		}
	}
	text := mixture(500, 10)
	for _, h := range allHashes {
		mask := maskOf(t, h, []byte("bar"), len(text))
		hidden := mgf.Xor(text, mask)
		if bytes.Equal(hidden, text) || !bytes.Equal(mgf.Xor(hidden, mask), text) {
			t.Errorf("a text under a mask of %d", h)
		}
	}
}

// P2: the seed stands in a list with more behind it, of which nothing may be read, written or handed out.
func TestSeedIsUnchanged(t *testing.T) {
	for _, h := range []int{0, 1, 2, 3, 4} {
		for _, size := range []int{0, 1, 3, 31, 32, 60, 64, 124, 128, 200} {
			room := mixture(size+400, 11)
			before := slices.Clone(room)
			seed := room[200 : 200+size]
			for _, n := range []int{-1, 0, 1, 32, 64, 65, 200, longest, longest + 1} {
				got, e := mgf.Mask(h, seed, n)
				if !bytes.Equal(room, before) {
					t.Fatalf("Mask(%d, %d bytes, %d) changes them or what is beside them", h, size, n)
				}
				alone, same := mgf.Mask(h, slices.Clip(slices.Clone(seed)), n)
				if !bytes.Equal(got, alone) || e != same {
					t.Fatalf("Mask(%d, %d bytes, %d) hangs on what is beside them", h, size, n)
				}
				clear(got[:cap(got)])
				if !bytes.Equal(room, before) {
					t.Fatalf("Mask(%d, %d bytes, %d) shares memory with them", h, size, n)
				}
			}
		}
	}
}

// P2: likewise the bytes that Xor is given, which may stand in one list and overlap.
func TestXorChangesNothing(t *testing.T) {
	for _, n := range []int{0, 1, 16, 100} {
		for _, many := range []int{0, 1, 16, 100, 150} {
			for _, start := range []int{100, 101, 150, 250} {
				room := mixture(500, 12)
				before := slices.Clone(room)
				a, b := room[100:100+n], room[start:start+many]
				got := mgf.Xor(a, b)
				if want := mgf.Xor(slices.Clone(a), slices.Clone(b)); !bytes.Equal(got, want) {
					t.Errorf("Xor of %d and %d bytes: %x, not %x", n, many, got, want)
				}
				clear(got[:cap(got)])
				if !bytes.Equal(room, before) {
					t.Errorf("Xor of %d and %d bytes changes them, or shares memory with them", n, many)
				}
			}
		}
	}
}

// P2, P3: what is answered is kept nowhere, and no two answers share memory.
func TestAnswersAreNew(t *testing.T) {
	seed, a, b := mixture(40, 13), mixture(100, 14), mixture(60, 15)
	ask := func() [][]byte {
		list := [][]byte{mgf.Xor(a, b), mgf.Xor(a, nil), mgf.Xor(b, a)}
		for _, h := range allHashes {
			size := hash.Size(h)
			list = append(list, maskOf(t, h, nil, size), maskOf(t, h, seed, size-1), maskOf(t, h, seed, size), maskOf(t, h, seed, 1000))
		}
		return list
	}
	var want [][]byte
	for _, answer := range ask() {
		want = append(want, slices.Clone(answer))
	}
	for range 3 {
		for i, answer := range ask() {
			if !bytes.Equal(answer, want[i]) {
				t.Fatalf("answer %d is another than before: %x, not %x", i, answer, want[i])
			}
			clear(answer[:cap(answer)])
		}
	}
}
