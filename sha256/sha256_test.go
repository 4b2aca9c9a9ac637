package sha256_test

import (
	"bytes"
	"encoding/hex"
	"math"
	"slices"
	"strings"
	"testing"

	"sconce/sha256"
)

// counting has n bytes: 0, 1, 2 and so on, from 0 again behind 255.
func counting(n int) []byte {
	b := make([]byte, n)
	for i := range b {
		b[i] = byte(i)
	}
	return b
}

// mixture has n bytes that are spread, others for each seed.
func mixture(n int, seed uint64) []byte {
	b := make([]byte, n)
	w := 0x9e3779b97f4a7c15 * (2*seed + 1)
	for i := range b {
		w ^= w << 13
		w ^= w >> 7
		w ^= w << 17
		b[i] = byte(w >> 32)
	}
	return b
}

// mixedState has words that are spread, others for each seed.
func mixedState(seed uint64) [8]uint32 {
	var s [8]uint32
	for i, b := range mixture(32, seed) {
		s[i/4] = s[i/4]<<8 | uint32(b)
	}
	return s
}

// allWords is a state of one word, eight times.
func allWords(w uint32) [8]uint32 {
	return [8]uint32{w, w, w, w, w, w, w, w}
}

// sumOf is what Sum answers, which has to be 32 bytes.
func sumOf(t *testing.T, b []byte) []byte {
	t.Helper()
	got := sha256.Sum(b)
	if len(got) != 32 {
		t.Fatalf("Sum of %d bytes has %d bytes: %x", len(b), len(got), got)
	}
	return got
}

// blockOf is what Block answers of 64 bytes, which it has to take.
func blockOf(t *testing.T, s [8]uint32, b []byte) [8]uint32 {
	t.Helper()
	got, is := sha256.Block(s, b)
	if !is {
		t.Fatalf("Block(%x, %x) is refused", s, b)
	}
	return got
}

// The chapter's first words: the slow K and H are those that it names, and so are the tables by the tests that go by them.
func TestRoots(t *testing.T) {
	k, h := roots(64, 3), startState()
	if k[0] != 0x428a2f98 || k[1] != 0x71374491 || k[63] != 0xc67178f2 {
		t.Errorf("K: %x", k)
	}
	if h[0] != 0x6a09e667 || h[1] != 0xbb67ae85 || h[7] != 0x5be0cd19 {
		t.Errorf("H: %x", h)
	}
}

// P11.1 of texts whose hashes are known, the chapter's example among them.
func TestSumOfTexts(t *testing.T) {
	for _, c := range []struct{ text, want string }{
		{"", "e3b0c44298fc1c149afbf4c8996fb92427ae41e4649b934ca495991b7852b855"},
		{"abc", "ba7816bf8f01cfea414140de5dae2223b00361a396177a9cb410ff61f20015ad"},
		{"abcdbcdecdefdefgefghfghighijhijkijkljklmklmnlmnomnopnopq",
			"248d6a61d20638b8e5c026930c3e6039a33ce45964ff2167f6ecedd419db06c1"},
		{"abcdefghbcdefghicdefghijdefghijkefghijklfghijklmghijklmnhijklmnoijklmnopjklmnopqklmnopqrlmnopqrsmnopqrstnopqrstu",
			"cf5b16a778af8380036ce59e7b0492370b249b11e8f07a51afac45037afee9d1"},
	} {
		if got := hex.EncodeToString(sumOf(t, []byte(c.text))); got != c.want {
			t.Errorf("Sum(%q): %s, not %s", c.text, got, c.want)
		}
	}
}

// P11.1 of lengths at the edges of blocks and of what stands behind them, and of many blocks: noughts, letters a, counting bytes.
func TestSumOfLengths(t *testing.T) {
	for _, c := range []struct {
		n                         int
		noughts, letters, counted string
	}{
		{1, "6e340b9cffb37a989ca544e6bb780a2c78901d3fb33738768511a30617afa01d", "ca978112ca1bbdcafac231b39a23dc4da786eff8147c4e72b9807785afee48bb", "6e340b9cffb37a989ca544e6bb780a2c78901d3fb33738768511a30617afa01d"},
		{3, "709e80c88487a2411e1ee4dfb9f22a861492d20c4765150c0c794abd70f8147c", "9834876dcfb05cb167a5c24953eba58c4ac89b1adf57f28f2f9d09af107ee8f0", "ae4b3280e56e2faf83f414a6e3dabe9d5fbe18976544c05fed121accb85b53fc"},
		{55, "02779466cdec163811d078815c633f21901413081449002f24aa3e80f0b88ef7", "9f4390f8d30c2dd92ec9f095b65e2b9ae9b0a925a5258e241c9f1e910f734318", "463eb28e72f82e0a96c0a4cc53690c571281131f672aa229e0d45ae59b598b59"},
		{56, "d4817aa5497628e7c77e6b606107042bbba3130888c5f47a375e6179be789fbb", "b35439a4ac6f0948b6d6f9e3c6af0f5f590ce20f1bde7090ef7970686ec6738a", "da2ae4d6b36748f2a318f23e7ab1dfdf45acdc9d049bd80e59de82a60895f562"},
		{57, "65a16cb7861335d5ace3c60718b5052e44660726da4cd13bb745381b235a1785", "f13b2d724659eb3bf47f2dd6af1accc87b81f09f59f2b75e5c0bed6589dfe8c6", "2fe741af801cc238602ac0ec6a7b0c3a8a87c7fc7d7f02a3fe03d1c12eac4d8f"},
		{63, "c7723fa1e0127975e49e62e753db53924c1bd84b8ac1ac08df78d09270f3d971", "7d3e74a05d7db15bce4ad9ec0658ea98e3f06eeecf16b4c6fff2da457ddc2f34", "29af2686fd53374a36b0846694cc342177e428d1647515f078784d69cdb9e488"},
		{64, "f5a5fd42d16a20302798ef6ed309979b43003d2320d9f0e8ea9831a92759fb4b", "ffe054fe7ae0cb6dc65c3af9b61d5209f439851db43d0ba5997337df154668eb", "fdeab9acf3710362bd2658cdc9a29e8f9c757fcf9811603a8c447cd1d9151108"},
		{65, "98ce42deef51d40269d542f5314bef2c7468d401ad5d85168bfab4c0108f75f7", "635361c48bb9eab14198e76ea8ab7f1a41685d6ad62aa9146d301d4f17eb0ae0", "4bfd2c8b6f1eec7a2afeb48b934ee4b2694182027e6d0fc075074f2fabb31781"},
		{119, "f616b0d54e78571a9611f343c9f8e022e859e920381ab0e4d3da01e193a7bd7e", "31eba51c313a5c08226adf18d4a359cfdfd8d2e816b13f4af952f7ea6584dcfb", "da18797ed7c3a777f0847f429724a2d8cd5138e6ed2895c3fa1a6d39d18f7ec6"},
		{120, "6edd9f6f9cc92cded36e6c4a580933f9c9f1b90562b46903b806f21902a1a54f", "2f3d335432c70b580af0e8e1b3674a7c020d683aa5f73aaaedfdc55af904c21c", "f52b23db1fbb6ded89ef42a23ce0c8922c45f25c50b568a93bf1c075420bbb7c"},
		{127, "15dae5979058bfbf4f9166029b6e340ea3ca374fef578a11dc9e6e923860d7ae", "c57e9278af78fa3cab38667bef4ce29d783787a2f731d4e12200270f0c32320a", "92ca0fa6651ee2f97b884b7246a562fa71250fedefe5ebf270d31c546bfea976"},
		{128, "38723a2e5e8a17aa7950dc008209944e898f69a7bd10a23c839d341e935fd5ca", "6836cf13bac400e9105071cd6af47084dfacad4e5e302c94bfed24e013afb73e", "471fb943aa23c511f6f72f8d1652d9c880cfa392ad80503120547703e56a2be5"},
		{129, "2c80619d7e7c58257293cda3a878c13e5856f4e06f6f90601276f7b9179c9e07", "c12cb024a2e5551cca0e08fce8f1c5e314555cc3fef6329ee994a3db752166ae", "5099c6a56203f9687f7d33f4bfdf576d31dc91f6b695ecea38b2770c87631135"},
		{1000, "541b3e9daa09b20bf85fa273e5cbd3e80185aa4ec298e765db87742b70138a53", "41edece42d63e8d9bf515a9ba6932e1c20cbc9f5a5d134645adb5db1b9737ea3", "a8af099bf2e878609558dbf69d8f88f4a31040a8cf84b549a0cfa912f12ffc3f"},
		{65536, "de2f256064a0af797747c2b97505dc0b9f3df0de4f489eac731c23ae9ca9cc31", "bf718b6f653bebc184e1479f1935b8da974d701b893afcf49e701f3e2f9f9c5a", "7daca2095d0438260fa849183dfc67faa459fdf4936e1bc91eec6b281b27e4c2"},
		{1000000, "d29751f2649b32ff572b5e0a9f541ea660a50f94ff0beedfb0b692b924cc8025", "cdc76e5c9914fb9281a1c7e284d73e67f1809a48a497200e046d39ccc7112cd0", "67870dfc9c64e7aa270a3f7e8051ae65d207f93fc3df04d7572e6365af69cd0d"},
	} {
		for _, part := range []struct {
			b    []byte
			want string
		}{
			{make([]byte, c.n), c.noughts},
			{[]byte(strings.Repeat("a", c.n)), c.letters},
			{counting(c.n), c.counted},
		} {
			if got := hex.EncodeToString(sumOf(t, part.b)); got != part.want {
				t.Errorf("Sum of %d bytes %.5x..: %s, not %s", c.n, part.b, got, part.want)
			}
		}
	}
}

// P11.1 of all lengths up to five blocks, against hashes reckoned bit by bit.
func TestSumAll(t *testing.T) {
	r := newSlow()
	for n := range 321 {
		b := mixture(n, uint64(n))
		if got, want := sumOf(t, b), r.sum(b); !bytes.Equal(got, want) {
			t.Errorf("Sum(%x): %x, not %x", b, got, want)
		}
	}
}

// P11.1: from H on, what Block makes block by block of the bytes and of what Pad says stands behind them.
func TestSumIsBlocks(t *testing.T) {
	for _, n := range []int{0, 1, 55, 56, 63, 64, 65, 119, 120, 128, 183, 184, 4096, 100003} {
		b := mixture(n, 5)
		all := append(slices.Clone(b), sha256.Pad(n)...)
		if len(all)%64 != 0 {
			t.Fatalf("%d bytes and Pad are no whole blocks: %d", n, len(all))
		}
		state := startState()
		for block := range slices.Chunk(all, 64) {
			state = blockOf(t, state, block)
		}
		var want []byte
		for _, w := range state {
			want = append(want, byte(w>>24), byte(w>>16), byte(w>>8), byte(w))
		}
		if got := sumOf(t, b); !bytes.Equal(got, want) {
			t.Errorf("Sum of %d bytes: %x, but by Block %x", n, got, want)
		}
	}
}

// P3
func TestSumOfNothing(t *testing.T) {
	want := "e3b0c44298fc1c149afbf4c8996fb92427ae41e4649b934ca495991b7852b855"
	for _, b := range [][]byte{nil, {}, counting(64)[:0], counting(64)[64:]} {
		if got := hex.EncodeToString(sumOf(t, b)); got != want {
			t.Errorf("Sum of nothing: %s", got)
		}
	}
}

// P11.2 of states and blocks whose answers are known.
func TestBlockKnown(t *testing.T) {
	noughts, ones, counted := make([]byte, 64), bytes.Repeat([]byte{255}, 64), counting(64)
	few := [8]uint32{1, 2, 3, 4, 5, 6, 7, 8}
	text := []byte("abcdbcdecdefdefgefghfghighijhijkijkljklmklmnlmnomnopnopq\x80\x00\x00\x00\x00\x00\x00\x00")
	for _, c := range []struct {
		s    [8]uint32
		b    []byte
		want [8]uint32
	}{
		{startState(), text, [8]uint32{0x85e655d6, 0x417a1795, 0x3363376a, 0x624cde5c, 0x76e09589, 0xcac5f811, 0xcc4b32c1, 0xf20e533a}},
		{startState(), noughts, [8]uint32{0xda5698be, 0x17b9b469, 0x62335799, 0x779fbeca, 0x8ce5d491, 0xc0d26243, 0xbafef9ea, 0x1837a9d8}},
		{startState(), ones, [8]uint32{0xef0c748d, 0xf4da50a8, 0xd6c43c01, 0x3edc3ce7, 0x6c9d9fa9, 0xa1458ade, 0x56eb86c0, 0xa64492d2}},
		{startState(), counted, [8]uint32{0xfc99a2df, 0x88f42a7a, 0x7bb9d180, 0x33cdc6a2, 0x0256755f, 0x9d5b9a50, 0x44a9cc31, 0x5abe84a7}},
		{allWords(0), noughts, [8]uint32{0x7ca51614, 0x425c3ba8, 0xce54dd2f, 0xc2020ae7, 0xb6e574d1, 0x98136d0f, 0xae7e26cc, 0xbf0be7a6}},
		{allWords(0), ones, [8]uint32{0x5081b30e, 0xfa9924a2, 0x8412d8aa, 0x28bb0c93, 0xda147a5a, 0xd8e1f92b, 0x5af1210d, 0x57081603}},
		{allWords(0), counted, [8]uint32{0xc6e08a73, 0xd0f4b2c6, 0x53130b1f, 0xaeb6b36d, 0x3429ef95, 0x73fd6544, 0x1640f295, 0x7f4c8e38}},
		{allWords(math.MaxUint32), noughts, [8]uint32{0x25260809, 0x56c94ba8, 0xe7d6dd48, 0x222df1d3, 0xf914c4b0, 0xb823beb6, 0xe8cebb7a, 0xddcdff59}},
		{allWords(math.MaxUint32), ones, [8]uint32{0x0598127a, 0xaf11706e, 0x77401fff, 0xd730c549, 0x0b84c867, 0xa98c6ca3, 0xd7f3c0f9, 0x06a78b79}},
		{allWords(math.MaxUint32), counted, [8]uint32{0x6bb65880, 0x161c8a6c, 0x41991093, 0x2003480d, 0x2c4b4ca2, 0x0e9c9532, 0x8a3b4efd, 0xb8e1a279}},
		{few, noughts, [8]uint32{0x4a9f3be3, 0xa6e79e2c, 0x78963890, 0x9cc3da78, 0xe45ed876, 0xbb41d7ff, 0xb1c295a9, 0x971fae0d}},
		{few, ones, [8]uint32{0x8a75dde1, 0x1e6d6f0b, 0x0bb2e984, 0xbb87ed43, 0x6273bf60, 0xf4f1a6d2, 0xc191d7bf, 0x497b6457}},
		{few, counted, [8]uint32{0xd983df8e, 0x621f4578, 0x1f917871, 0x0bdcc9b3, 0x3044782b, 0xa13edb77, 0xfba54b2c, 0xd168eed7}},
	} {
		if got := blockOf(t, c.s, c.b); got != c.want {
			t.Errorf("Block(%x, %x): %x, not %x", c.s, c.b, got, c.want)
		}
	}
}

// P11.2 of spread states and blocks, against answers reckoned bit by bit.
func TestBlockAll(t *testing.T) {
	r := newSlow()
	for seed := range uint64(300) {
		s, b := mixedState(seed), mixture(64, seed+1000)
		if got, want := blockOf(t, s, b), r.block(s, b); got != want {
			t.Errorf("Block(%x, %x): %x, not %x", s, b, got, want)
		}
	}
}

// P11.2 of states and blocks of noughts but for one bit, and of ones but for one nought.
func TestBlockSingleBits(t *testing.T) {
	r := newSlow()
	for _, ground := range []byte{0, 255} {
		whole := uint32(ground) * 0x01010101
		for place := range 512 {
			s, b := allWords(whole), bytes.Repeat([]byte{ground}, 64)
			b[place/8] ^= 1 << (place % 8)
			if got, want := blockOf(t, s, b), r.block(s, b); got != want {
				t.Errorf("Block(%x, %x): %x, not %x", s, b, got, want)
			}
		}
		for place := range 256 {
			s, b := allWords(whole), bytes.Repeat([]byte{ground}, 64)
			s[place/32] ^= 1 << (place % 32)
			if got, want := blockOf(t, s, b), r.block(s, b); got != want {
				t.Errorf("Block(%x, %x): %x, not %x", s, b, got, want)
			}
		}
	}
}

// P11.2: of more or fewer than 64 bytes, noughts and false, even if there is more behind the list's length.
func TestBlockRefuses(t *testing.T) {
	wrong := [][]byte{nil, {}, counting(128)[:63], counting(64)[:0], counting(64)[1:], counting(1 << 16)}
	for n := range 200 {
		if n != 64 {
			wrong = append(wrong, mixture(n, 3))
		}
	}
	for _, b := range wrong {
		for _, s := range [][8]uint32{startState(), allWords(0), allWords(math.MaxUint32), mixedState(1)} {
			if got, is := sha256.Block(s, b); is || got != allWords(0) {
				t.Errorf("Block(%x, %d bytes): %x, %t", s, len(b), got, is)
			}
		}
	}
}

// padded is a byte 128, so many noughts, and a count's digits as bytes.
func padded(t *testing.T, noughts int, count string) []byte {
	t.Helper()
	last, err := hex.DecodeString(count)
	if err != nil || len(last) != 8 {
		t.Fatalf("no eight bytes: %s", count)
	}
	return slices.Concat([]byte{128}, make([]byte, noughts), last)
}

// P11.3 in bytes written out.
func TestPadExamples(t *testing.T) {
	for _, c := range []struct {
		n, noughts int
		count      string
	}{
		{math.MinInt, 55, "0000000000000000"},
		{-64, 55, "0000000000000000"},
		{-5, 55, "0000000000000000"},
		{-1, 55, "0000000000000000"},
		{0, 55, "0000000000000000"},
		{1, 54, "0000000000000008"},
		{3, 52, "0000000000000018"},
		{31, 24, "00000000000000f8"},
		{32, 23, "0000000000000100"},
		{54, 1, "00000000000001b0"},
		{55, 0, "00000000000001b8"},
		{56, 63, "00000000000001c0"},
		{63, 56, "00000000000001f8"},
		{64, 55, "0000000000000200"},
		{65, 54, "0000000000000208"},
		{119, 0, "00000000000003b8"},
		{120, 63, "00000000000003c0"},
		{128, 55, "0000000000000400"},
		{1 << 20, 55, "0000000000800000"},
		{1 << 29, 55, "0000000100000000"},
		{math.MaxInt32, 56, "00000003fffffff8"},
	} {
		if got, want := sha256.Pad(c.n), padded(t, c.noughts, c.count); !bytes.Equal(got, want) {
			t.Errorf("Pad(%d): %x, not %x", c.n, got, want)
		}
	}
}

// P11.3 of great n, also of those whose 8 n has more than 64 bits.
func TestPadOfGreat(t *testing.T) {
	if math.MaxInt>>62 == 0 {
		t.Skip("int has fewer than 64 bits")
	}
	for _, c := range []struct {
		n       uint64
		noughts int
		count   string
	}{
		{math.MaxInt64, 56, "fffffffffffffff8"},
		{math.MaxInt64 - 7, 63, "ffffffffffffffc0"},
		{math.MaxInt64 - 8, 0, "ffffffffffffffb8"},
		{math.MaxInt64 - 62, 54, "fffffffffffffe08"},
		{math.MaxInt64 - 63, 55, "fffffffffffffe00"},
		{1 << 40, 55, "0000080000000000"},
		{1<<60 + 9, 46, "8000000000000048"},
		{1<<61 - 1, 56, "fffffffffffffff8"},
		{1 << 61, 55, "0000000000000000"},
		{1<<61 + 1, 54, "0000000000000008"},
		{1<<62 + 55, 0, "00000000000001b8"},
		{1<<62 + 56, 63, "00000000000001c0"},
	} {
		if got, want := sha256.Pad(int(c.n)), padded(t, c.noughts, c.count); !bytes.Equal(got, want) {
			t.Errorf("Pad(%d): %x, not %x", c.n, got, want)
		}
	}
}

// P11.3 of small n, of powers of 2 and what is near them, and of the greatest int and what is near it, against bytes put together one by one.
func TestPadAll(t *testing.T) {
	var list []int
	for n := -130; n < 1000; n++ {
		list = append(list, n, math.MaxInt-130-n, math.MinInt+130+n)
	}
	for n := 1 << 10; n > 0; n *= 2 {
		for near := range 130 {
			list = append(list, n-65+near)
		}
	}
	for _, n := range list {
		got, want := sha256.Pad(n), slowPad(n)
		if !bytes.Equal(got, want) {
			t.Errorf("Pad(%d): %x, not %x", n, got, want)
		}
		if len(got) < 9 || len(got) > 72 || (max(n, 0)%64+len(got))%64 != 0 {
			t.Errorf("Pad(%d) has %d bytes", n, len(got))
		}
	}
}

// P2: the bytes stand in a list with more behind it, of which nothing may be read, written or handed out.
func TestNothingChanged(t *testing.T) {
	for _, n := range []int{0, 1, 55, 56, 63, 64, 65, 119, 120, 128, 1000} {
		room := mixture(n+200, 7)
		before := slices.Clone(room)
		b := room[100 : 100+n]
		sum := sumOf(t, b)
		mixed, is := sha256.Block(mixedState(2), b)
		if !bytes.Equal(room, before) {
			t.Errorf("bytes are changed by Sum or Block of %d of them", n)
		}
		alone := slices.Clip(slices.Clone(b))
		other, too := sha256.Block(mixedState(2), alone)
		if !bytes.Equal(sum, sumOf(t, alone)) || mixed != other || is != too {
			t.Errorf("Sum or Block of %d bytes hangs on what is beside them", n)
		}
		clear(sum[:cap(sum)])
		if !bytes.Equal(room, before) {
			t.Errorf("Sum of %d bytes shares memory with them", n)
		}
	}
}

// P2, P3: what is answered is kept nowhere.
func TestAnswersAreNew(t *testing.T) {
	b := counting(100)
	sum, behind := sumOf(t, b), sha256.Pad(100)
	wantSum, wantBehind := slices.Clone(sum), slices.Clone(behind)
	for range 3 {
		clear(sum[:cap(sum)])
		clear(behind[:cap(behind)])
		sum, behind = sumOf(t, b), sha256.Pad(100)
		if !bytes.Equal(sum, wantSum) || !bytes.Equal(behind, wantBehind) {
			t.Fatalf("other answers than before: %x, %x", sum, behind)
		}
	}
}

// P3: a call leaves nothing behind that another could tell.
func TestCallsAreAlone(t *testing.T) {
	s, b := mixedState(4), mixture(64, 4)
	want := blockOf(t, s, b)
	sumOf(t, mixture(500, 1))
	sha256.Block(startState(), nil)
	sha256.Pad(math.MaxInt)
	if got := blockOf(t, s, b); got != want {
		t.Errorf("Block: %x, but before %x", got, want)
	}
}
