package nat_test

import (
	"math"
	"slices"
	"strings"
	"testing"

	"sconce/api"
	"sconce/nat"
)

const (
	top      = uint64(1<<64 - 1)
	maxBytes = 8 * api.MaxWords
)

// full has n words, all of them ones.
func full(n int) api.Nat {
	x := make(api.Nat, n)
	for i := range x {
		x[i] = top
	}
	return x
}

// single has n words, of which all but the one at a place are 0.
func single(n, place int, w uint64) api.Nat {
	x := make(api.Nat, n)
	x[place] = w
	return x
}

// mixture has n words that are spread, the same ones at each call.
func mixture(n int) api.Nat {
	x := make(api.Nat, n)
	w := uint64(0x9e3779b97f4a7c15)
	for i := range x {
		w ^= w << 13
		w ^= w >> 7
		w ^= w << 17
		x[i] = w
	}
	return x
}

// numbers are of many lengths, with noughts at the top, at the bottom and between, up to MaxWords words.
func numbers() []api.Nat {
	list := []api.Nat{nil, {}, {0}, {0, 0}, {1}, {2}, {15}, {16}, {255}, {256}, {256, 0}, {257}, {1 << 63}, {top}, {top, 0, 0},
		{0, 1}, {1, 1}, {5, 0, 7}, {0, 0, 7, 0}, {top, top}, {0x0203040506070809, 1}, {0x0203040506070809, 0x0a}, {0, 0, 1 << 63}}
	for place := range 128 {
		list = append(list, single(3, place/64, 1<<(place%64)))
	}
	for _, n := range []int{1, 2, 3, 8, 31, 299, 300} {
		list = append(list, mixture(n), full(n), make(api.Nat, n), single(n, n-1, 1), single(n, 0, 1))
	}
	return list
}

// bitsOf are the bits of x, the lowest ahead, without noughts at the top: what a number is, by the chapter's first words.
func bitsOf(x api.Nat) []byte {
	var list []byte
	for _, w := range x {
		for range 64 {
			list = append(list, byte(w%2))
			w /= 2
		}
	}
	for len(list) > 0 && list[len(list)-1] == 0 {
		list = list[:len(list)-1]
	}
	return list
}

// bytesOf are the bytes of x, the highest ahead, without noughts, put together bit by bit.
func bytesOf(x api.Nat) []byte {
	var list []byte
	for i, bit := range bitsOf(x) {
		if i%8 == 0 {
			list = append(list, 0)
		}
		list[i/8] |= bit << (i % 8)
	}
	slices.Reverse(list)
	return list
}

// shown is Show's text of x, put together bit by bit.
func shown(x api.Nat) string {
	const signs = "0123456789abcdef"
	list := bitsOf(x)
	text := ""
	for i := 0; i < len(list); i += 4 {
		value := 0
		for j, bit := range list[i:min(i+4, len(list))] {
			value += int(bit) << j
		}
		text = signs[value:value+1] + text
	}
	if text == "" {
		text = "0"
	}
	return "0x" + text
}

// padded has noughts ahead of b, up to a size.
func padded(b []byte, size int) []byte {
	return append(make([]byte, size-len(b)), b...)
}

func wordsNeeded(x api.Nat) int {
	return (len(bitsOf(x)) + 63) / 64
}

// extended is x with noughts at its top, up to n words, or without as many as it doesn't need.
func extended(x api.Nat, n int) api.Nat {
	out := make(api.Nat, n)
	for i, w := range x {
		if i < n {
			out[i] = w
		}
	}
	return out
}

func checkNat(t *testing.T, what string, x api.Nat, e api.Errno, want api.Nat) {
	t.Helper()
	if e != api.OK || !slices.Equal(x, want) {
		t.Errorf("%s: %x, %d, not %x", what, x, e, want)
	}
}

func checkNoNat(t *testing.T, what string, x api.Nat, e, want api.Errno) {
	t.Helper()
	if e != want || len(x) != 0 {
		t.Errorf("%s: %d words, %d, not none, %d", what, len(x), e, want)
	}
}

func checkBytes(t *testing.T, what string, b []byte, e api.Errno, want []byte) {
	t.Helper()
	if e != api.OK || !slices.Equal(b, want) {
		t.Errorf("%s: %x, %d, not %x", what, b, e, want)
	}
}

func checkNoBytes(t *testing.T, what string, b []byte, e, want api.Errno) {
	t.Helper()
	if e != want || len(b) != 0 {
		t.Errorf("%s: %d bytes, %d, not none, %d", what, len(b), e, want)
	}
}

// P3.1
func TestOfExamples(t *testing.T) {
	for _, c := range []struct {
		what string
		b    []byte
		n    int
		want api.Nat
	}{
		{"the chapter's example", []byte{1, 0}, 2, api.Nat{256, 0}},
		{"none in none", nil, 0, nil},
		{"an empty list in none", []byte{}, 0, nil},
		{"none in one", nil, 1, api.Nat{0}},
		{"none in three", []byte{}, 3, api.Nat{0, 0, 0}},
		{"noughts in none", []byte{0, 0, 0}, 0, nil},
		{"noughts in one", make([]byte, 20), 1, api.Nat{0}},
		{"one byte", []byte{7}, 1, api.Nat{7}},
		{"eight bytes", []byte{1, 2, 3, 4, 5, 6, 7, 8}, 1, api.Nat{0x0102030405060708}},
		{"eight bytes of ones", []byte{255, 255, 255, 255, 255, 255, 255, 255}, 1, api.Nat{top}},
		{"eight bytes behind noughts", []byte{0, 0, 0, 255, 2, 3, 4, 5, 6, 7, 8}, 1, api.Nat{0xff02030405060708}},
		{"nine bytes", []byte{9, 1, 2, 3, 4, 5, 6, 7, 8}, 2, api.Nat{0x0102030405060708, 9}},
		{"noughts behind", []byte{1, 0, 0, 0, 0, 0, 0, 0, 0}, 2, api.Nat{0, 1}},
		{"noughts between", []byte{1, 0, 0, 0, 0, 0, 0, 0, 2}, 3, api.Nat{2, 1, 0}},
	} {
		x, e := nat.Of(c.b, c.n)
		checkNat(t, c.what, x, e, c.want)
	}
}

// P3.1
func TestOfAll(t *testing.T) {
	for _, x := range numbers() {
		for _, ahead := range []int{0, 1, 7, 8, 9} {
			b := append(make([]byte, ahead), bytesOf(x)...)
			for _, n := range []int{len(x), wordsNeeded(x), api.MaxWords} {
				got, e := nat.Of(b, n)
				checkNat(t, "Of", got, e, extended(x, n))
			}
		}
	}
	b := slices.Repeat([]byte{255}, maxBytes)
	x, e := nat.Of(b, api.MaxWords)
	checkNat(t, "just as many bytes as fit", x, e, full(api.MaxWords))
	x, e = nat.Of(append(make([]byte, 100000), b...), api.MaxWords)
	checkNat(t, "behind many noughts", x, e, full(api.MaxWords))
}

// P3.1
func TestOfErrors(t *testing.T) {
	nine := []byte{1, 0, 0, 0, 0, 0, 0, 0, 0}
	for _, c := range []struct {
		what string
		b    []byte
		n    int
		want api.Errno
	}{
		{"n above MaxWords", nil, api.MaxWords + 1, api.ErrLong},
		{"n far above", []byte{1}, math.MaxInt, api.ErrLong},
		{"n above, too many bytes", slices.Repeat([]byte{1}, maxBytes+9), api.MaxWords + 1, api.ErrLong},
		{"n below 0", nil, -1, api.ErrRange},
		{"n far below 0", nil, math.MinInt, api.ErrRange},
		{"n below 0, noughts", []byte{0, 0}, -1, api.ErrRange},
		{"n below 0, a number", []byte{1}, -1, api.ErrRange},
		{"one in none", []byte{1}, 0, api.ErrRange},
		{"one in none, behind noughts", []byte{0, 0, 1}, 0, api.ErrRange},
		{"nine bytes in one", nine, 1, api.ErrRange},
		{"nine bytes in one, behind noughts", append([]byte{0, 0}, nine...), 1, api.ErrRange},
		{"seventeen bytes in two", append(slices.Clone(nine), make([]byte, 8)...), 2, api.ErrRange},
		{"more bytes than MaxWords have", append([]byte{1}, make([]byte, maxBytes)...), api.MaxWords, api.ErrRange},
	} {
		x, e := nat.Of(c.b, c.n)
		checkNoNat(t, c.what, x, e, c.want)
	}
}

// P3.2
func TestBytesExamples(t *testing.T) {
	for _, c := range []struct {
		what string
		x    api.Nat
		size int
		want []byte
	}{
		{"the chapter's example", api.Nat{256, 0}, 3, []byte{0, 1, 0}},
		{"no words in none", nil, 0, nil},
		{"no words in two", api.Nat{}, 2, []byte{0, 0}},
		{"0 in none", api.Nat{0}, 0, nil},
		{"many noughts in none", make(api.Nat, api.MaxWords), 0, nil},
		{"many noughts in three", make(api.Nat, api.MaxWords), 3, []byte{0, 0, 0}},
		{"255 in one", api.Nat{255}, 1, []byte{255}},
		{"256 in two", api.Nat{256}, 2, []byte{1, 0}},
		{"a word in eight", api.Nat{0x0102030405060708}, 8, []byte{1, 2, 3, 4, 5, 6, 7, 8}},
		{"a word in ten", api.Nat{0x0102030405060708}, 10, []byte{0, 0, 1, 2, 3, 4, 5, 6, 7, 8}},
		{"two words in nine", api.Nat{0x0102030405060708, 9}, 9, []byte{9, 1, 2, 3, 4, 5, 6, 7, 8}},
		{"three words, one needed", api.Nat{5, 0, 0}, 1, []byte{5}},
	} {
		b, e := nat.Bytes(c.x, c.size)
		checkBytes(t, c.what, b, e, c.want)
	}
}

// P3.2
func TestBytesAll(t *testing.T) {
	for _, x := range numbers() {
		want := bytesOf(x)
		for _, more := range []int{0, 1, 2, 7, 8, 9, maxBytes - len(want)} {
			size := min(len(want)+more, maxBytes)
			b, e := nat.Bytes(x, size)
			checkBytes(t, "Bytes", b, e, padded(want, size))
		}
		if len(want) > 0 {
			b, e := nat.Bytes(x, len(want)-1)
			checkNoBytes(t, "too small by one", b, e, api.ErrRange)
			b, e = nat.Bytes(x, 0)
			checkNoBytes(t, "no bytes", b, e, api.ErrRange)
		}
	}
}

// P3.2
func TestBytesErrors(t *testing.T) {
	const tooMany = api.MaxWords + 1
	for _, c := range []struct {
		what string
		x    api.Nat
		size int
		want api.Errno
	}{
		{"size above", api.Nat{1}, maxBytes + 1, api.ErrLong},
		{"size far above", nil, math.MaxInt, api.ErrLong},
		{"too many words", full(tooMany), maxBytes, api.ErrLong},
		{"too many words, all noughts", make(api.Nat, tooMany), 5, api.ErrLong},
		{"too many words, few needed", single(tooMany, 0, 1), maxBytes, api.ErrLong},
		{"too many words, size above", full(tooMany), maxBytes + 1, api.ErrLong},
		{"too many words, size too small", full(tooMany), 1, api.ErrLong},
		{"too many words, size below 0", full(tooMany), -1, api.ErrLong},
		{"size below 0", api.Nat{1}, -1, api.ErrRange},
		{"size below 0, of 0", api.Nat{0}, -1, api.ErrRange},
		{"size below 0, of no words", nil, -1, api.ErrRange},
		{"size far below 0", nil, math.MinInt, api.ErrRange},
		{"size far below 0, of a number", full(2), math.MinInt, api.ErrRange},
		{"size that is 0 times 8", full(2), -1 << 61, api.ErrRange},
		{"256 in one", api.Nat{256}, 1, api.ErrRange},
		{"nine bytes in eight", api.Nat{0, 1}, 8, api.ErrRange},
	} {
		b, e := nat.Bytes(c.x, c.size)
		checkNoBytes(t, c.what, b, e, c.want)
	}
}

// P3.3
func TestWord(t *testing.T) {
	for _, w := range []uint64{0, 1, 256, 1 << 63, top} {
		for _, c := range []struct{ n, want int }{
			{math.MinInt, 1}, {-4, 1}, {-1, 1}, {0, 1}, {1, 1}, {2, 2}, {3, 3}, {299, 299}, {300, 300}, {301, 300}, {math.MaxInt, 300},
		} {
			if x := nat.Word(w, c.n); !slices.Equal(x, extended(api.Nat{w}, c.want)) {
				t.Errorf("Word(%d, %d): %x", w, c.n, x)
			}
		}
	}
}

// P3.4
func TestBits(t *testing.T) {
	for _, c := range []struct {
		x    api.Nat
		want int
	}{
		{nil, 0}, {api.Nat{}, 0}, {api.Nat{0}, 0}, {make(api.Nat, 301), 0}, {api.Nat{1}, 1}, {api.Nat{2}, 2}, {api.Nat{3}, 2}, {api.Nat{255}, 8}, {api.Nat{256}, 9},
		{api.Nat{top}, 64}, {api.Nat{top, 0}, 64}, {api.Nat{0, 1}, 65}, {api.Nat{0, 1, 0}, 65}, {full(300), 19200}, {single(300, 299, 1), 19137}, {full(400), 25600},
	} {
		if got := nat.Bits(c.x); got != c.want {
			t.Errorf("Bits(%x): %d, not %d", c.x, got, c.want)
		}
	}
	for _, x := range numbers() {
		if got := nat.Bits(x); got != len(bitsOf(x)) {
			t.Errorf("Bits(%x): %d", x, got)
		}
	}
}

// P3.4
func TestCompareExamples(t *testing.T) {
	rising := []api.Nat{{0}, {1}, {2}, {5}, {6}, {top - 1}, {top}, {0, 1}, {1, 1}, {top, 1}, {0, 2}, {5, 2}, {top, top}, {0, 0, 1}, {5, 5, 5}, {6, 5, 5}, {0, 6, 5}, {0, 0, 6}, full(300), single(301, 300, 1), single(301, 300, 2)}
	for i, a := range rising {
		for j, b := range rising {
			want := 0
			if i < j {
				want = -1
			} else if i > j {
				want = 1
			}
			for _, more := range []int{0, 1, 5} {
				longer := extended(a, len(a)+more)
				if got := nat.Compare(longer, b); got != want {
					t.Errorf("Compare(%x, %x): %d, not %d", longer, b, got, want)
				}
				if got := nat.Compare(b, longer); got != -want {
					t.Errorf("Compare(%x, %x): %d, not %d", b, longer, got, -want)
				}
			}
		}
	}
	noughts := []api.Nat{nil, {}, {0}, {0, 0}, make(api.Nat, 301)}
	for _, a := range noughts {
		if nat.Compare(a, api.Nat{1}) != -1 || nat.Compare(api.Nat{1}, a) != 1 {
			t.Errorf("%d noughts against 1", len(a))
		}
		for _, b := range noughts {
			if nat.Compare(a, b) != 0 {
				t.Errorf("%d noughts against %d", len(a), len(b))
			}
		}
	}
}

// P3.4
func TestCompareAll(t *testing.T) {
	list := numbers()
	texts := make([]string, len(list))
	for i, x := range list {
		// Filled up to one length the texts stand as the numbers do.
		texts[i] = string(padded(bytesOf(x), maxBytes))
	}
	for i, a := range list {
		for j, b := range list {
			if got := nat.Compare(a, b); got != strings.Compare(texts[i], texts[j]) {
				t.Fatalf("Compare(%x, %x): %d", a, b, got)
			}
		}
	}
}

// P3.5
func TestResize(t *testing.T) {
	for _, x := range numbers() {
		need := wordsNeeded(x)
		for _, n := range []int{0, 1, 2, need - 1, need, need + 1, len(x) - 1, len(x), len(x) + 1, api.MaxWords - 1, api.MaxWords} {
			got, e := nat.Resize(x, n)
			switch {
			case n > api.MaxWords:
				checkNoNat(t, "above MaxWords", got, e, api.ErrLong)
			case n < need:
				checkNoNat(t, "too few words", got, e, api.ErrRange)
			default:
				checkNat(t, "Resize", got, e, extended(x, n))
			}
		}
	}
}

// P3.5
func TestResizeEdges(t *testing.T) {
	for _, c := range []struct {
		what string
		x    api.Nat
		n    int
		want api.Errno
	}{
		{"n above MaxWords", api.Nat{1}, api.MaxWords + 1, api.ErrLong},
		{"n far above", nil, math.MaxInt, api.ErrLong},
		{"n above, as many words", full(api.MaxWords + 1), api.MaxWords + 1, api.ErrLong},
		{"n above, doesn't fit", full(api.MaxWords + 2), api.MaxWords + 1, api.ErrLong},
		{"n below 0", api.Nat{1}, -1, api.ErrRange},
		{"n below 0, no words", nil, -1, api.ErrRange},
		{"n far below 0", api.Nat{0}, math.MinInt, api.ErrRange},
		{"one in none", api.Nat{1}, 0, api.ErrRange},
		{"two in one", api.Nat{0, 1}, 1, api.ErrRange},
		{"more than MaxWords needed", full(api.MaxWords + 1), api.MaxWords, api.ErrRange},
	} {
		x, e := nat.Resize(c.x, c.n)
		checkNoNat(t, c.what, x, e, c.want)
	}
	x, e := nat.Resize(single(api.MaxWords+5, 1, 7), 2)
	checkNat(t, "many words, two needed", x, e, api.Nat{0, 7})
	x, e = nat.Resize(nil, 0)
	checkNat(t, "none in none", x, e, nil)
	x, e = nat.Resize(nil, 2)
	checkNat(t, "none in two", x, e, api.Nat{0, 0})
}

// P3.6
func TestBit(t *testing.T) {
	for _, x := range numbers() {
		bits := bitsOf(x)
		for i := -70; i < 64*len(x)+70; i++ {
			want := uint64(0)
			if 0 <= i && i < len(bits) {
				want = uint64(bits[i])
			}
			if got := nat.Bit(x, i); got != want {
				t.Fatalf("Bit(%x, %d): %d, not %d", x, i, got, want)
			}
		}
	}
	for _, x := range []api.Nat{nil, full(1), full(2), full(301)} {
		for _, i := range []int{math.MinInt, math.MinInt + 1, -64, -63, -1, 64 * len(x), 64*len(x) + 63, math.MaxInt} {
			if got := nat.Bit(x, i); got != 0 {
				t.Errorf("Bit of %d words, %d: %d", len(x), i, got)
			}
		}
	}
	if nat.Bit(full(301), 301*64-1) != 1 {
		t.Error("the highest bit of 301 words")
	}
}

// P3.7
func TestShow(t *testing.T) {
	for _, c := range []struct {
		x    api.Nat
		want string
	}{
		{api.Nat{0, 1}, "0x10000000000000000"},
		{nil, "0x0"}, {api.Nat{}, "0x0"}, {api.Nat{0}, "0x0"}, {make(api.Nat, 301), "0x0"},
		{api.Nat{1}, "0x1"}, {api.Nat{9}, "0x9"}, {api.Nat{10}, "0xa"}, {api.Nat{15, 0, 0}, "0xf"}, {api.Nat{16}, "0x10"},
		{api.Nat{0x0123456789abcdef}, "0x123456789abcdef"},
		{api.Nat{0x0123456789abcdef, 0xfedcba9876543210}, "0xfedcba98765432100123456789abcdef"},
		{api.Nat{5, 0, 7, 0}, "0x700000000000000000000000000000005"},
		{full(301), "0x" + strings.Repeat("f", 16*301)},
	} {
		if got := nat.Show(c.x); got != c.want {
			t.Errorf("Show(%x): %s", c.x, got)
		}
	}
	for _, x := range numbers() {
		if got := nat.Show(x); got != shown(x) {
			t.Errorf("Show(%x): %s", x, got)
		}
	}
}

// P3.7
func TestParseShown(t *testing.T) {
	for _, x := range numbers() {
		want := extended(x, max(wordsNeeded(x), 1))
		if got, is := nat.Parse(shown(x)); !is || !slices.Equal(got, want) {
			t.Errorf("Parse(%s): %x, %t", shown(x), got, is)
		}
	}
	for _, c := range []struct {
		s    string
		want api.Nat
	}{
		{"0x0", api.Nat{0}}, {"0x1", api.Nat{1}}, {"0xf", api.Nat{15}}, {"0x10", api.Nat{16}}, {"0xffffffffffffffff", api.Nat{top}},
		{"0x10000000000000000", api.Nat{0, 1}}, {"0xfedcba98765432100123456789abcdef", api.Nat{0x0123456789abcdef, 0xfedcba9876543210}},
		{"0x" + strings.Repeat("f", 4800), full(300)}, {"0x1" + strings.Repeat("0", 4799), single(300, 299, 1<<60)},
	} {
		if got, is := nat.Parse(c.s); !is || !slices.Equal(got, c.want) {
			t.Errorf("Parse(%s): %x, %t", c.s, got, is)
		}
	}
}

// P3.7
func TestParseRefuses(t *testing.T) {
	for _, s := range []string{
		"", "0", "1", "x", "x1", "0x", "a", "12", "1x0", "00x1", "0x0x1", "#1",
		"0X1", "0XA", "0xA", "0xF", "0xaB", "0x1F",
		"0x00", "0x01", "0x0a", "0x00000000000000001", "0x000",
		"0x1g", "0xg", "0x`", "0x/", "0x:", "0x@", "0xG", "0x1G1", "0x-1", "-0x1", "+0x1", "0x+1", "0x1.", "0x1_0", "0x_1", "0x1h", "0x1p3",
		" 0x1", "0x1 ", "0x 1", "0x1\n", "\n0x1", "0x1\x00", "\x000x1", "0x1 0",
		"0xé", "0x1é", "0x１", "0x1１", "0x٣", "0xа", "0x\xff", "0x1\xc3", "0x1\x80a", "\uFEFF0x1", "0x1\uFFFD", "0x1İ", "０x1",
		"0x1" + strings.Repeat("0", 4800), "0x" + strings.Repeat("f", 4801), "0x0" + strings.Repeat("f", 4800), "0x" + strings.Repeat("0", 4800), "0x" + strings.Repeat("f", 4799) + "g", "0xg" + strings.Repeat("f", 4799), "0x" + strings.Repeat("f", 100000),
		shown(full(301)), shown(single(301, 300, 1)),
	} {
		if x, is := nat.Parse(s); is || len(x) != 0 {
			t.Errorf("Parse(%q): %x, %t", s, x, is)
		}
	}
	// Each sign but the sixteen digits is refused, at either end.
	for sign := rune(0); sign < 1000; sign++ {
		is := '0' <= sign && sign <= '9' || 'a' <= sign && sign <= 'f'
		if _, got := nat.Parse("0x1" + string(sign)); got != is {
			t.Errorf("Parse of 0x1 and %q: %t", sign, got)
		}
		if _, got := nat.Parse("0x" + string(sign) + "1"); got != (is && sign != '0') {
			t.Errorf("Parse of 0x, %q and 1: %t", sign, got)
		}
	}
}

// P3.8
func TestBack(t *testing.T) {
	for _, x := range numbers() {
		for size := len(bytesOf(x)); size <= min(8*len(x)+9, maxBytes); size++ {
			b, e := nat.Bytes(x, size)
			if e != api.OK {
				t.Fatalf("Bytes of %d words in %d: %d", len(x), size, e)
			}
			back, e := nat.Of(b, len(x))
			checkNat(t, "Of of Bytes", back, e, x)
		}
	}
}

// P2: each argument stands in a list with more behind it, of which nothing may be read, written or handed out.
func TestNothingChanged(t *testing.T) {
	kept := api.Nat{5, 0, 7, 0, 99, 98}
	x := kept[:4]
	keptBytes := []byte{0, 1, 2, 3, 4, 5, 6, 7, 8, 9, 99, 98}
	b := keptBytes[:10]
	nat.Bits(x)
	nat.Compare(x, x)
	nat.Bit(x, 300)
	nat.Show(x)
	of, _ := nat.Of(b, 4)
	put, _ := nat.Bytes(x, 40)
	same, _ := nat.Resize(x, 4)
	less, _ := nat.Resize(x, 3)
	more, _ := nat.Resize(x, 6)
	checkNat(t, "Resize beyond the list", more, api.OK, api.Nat{5, 0, 7, 0, 0, 0})
	for _, out := range []api.Nat{of, same, less, more} {
		spoil(out)
	}
	spoil(put)
	if !slices.Equal(kept, api.Nat{5, 0, 7, 0, 99, 98}) || !slices.Equal(keptBytes, []byte{0, 1, 2, 3, 4, 5, 6, 7, 8, 9, 99, 98}) {
		t.Errorf("changed: %x, %x", kept, keptBytes)
	}
	again, e := nat.Resize(x, 4)
	checkNat(t, "Resize again", again, e, x)
	word := nat.Word(3, 4)
	spoil(word)
	checkNat(t, "Word again", nat.Word(3, 4), api.OK, api.Nat{3, 0, 0, 0})
	parsed, _ := nat.Parse("0x10")
	spoil(parsed)
	parsed, _ = nat.Parse("0x10")
	checkNat(t, "Parse again", parsed, api.OK, api.Nat{16})
}

// spoil overwrites all of a list, what lies behind its length too.
func spoil[T byte | uint64](list []T) {
	list = list[:cap(list)]
	for i := range list {
		list[i] = 77
	}
}
