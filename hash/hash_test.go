package hash_test

import (
	"bytes"
	"encoding/hex"
	"math"
	"slices"
	"strings"
	"testing"

	"sconce/api"
	"sconce/hash"
	"sconce/sha256"
	"sconce/sha512"
)

// allHashes are the numbers that the chapter names.
var allHashes = []int{1, 2, 3}

// noHashes are numbers that the chapter doesn't name, also some whose lowest bits are those of one that it does.
func noHashes() []int {
	list := []int{0, math.MinInt32, math.MaxInt32, math.MaxInt - 1, math.MaxInt}
	for low := range 4 {
		list = append(list, math.MinInt+low, math.MinInt32+low, 1<<16+low)
	}
	for h := 1; h <= 600; h++ {
		list = append(list, -h, h+3)
	}
	return list
}

// counting has n bytes: 0, 1, 2 and so on, from 0 again behind 255.
func counting(n int) []byte {
	b := make([]byte, n)
	for i := range b {
		b[i] = byte(i)
	}
	return b
}

// mixture has n bytes that are spread, others for each seed.
func mixture(n int, seed uint64) []byte {
	b := make([]byte, n)
	w := 0x9e3779b97f4a7c15 * (2*seed + 1)
	for i := range b {
		w ^= w << 13
		w ^= w >> 7
		w ^= w << 17
		b[i] = byte(w >> 32)
	}
	return b
}

// sumOf is what Sum answers of a hash that there is, which has to be Size bytes.
func sumOf(t *testing.T, h int, b []byte) []byte {
	t.Helper()
	got, e := hash.Sum(h, b)
	if e != api.OK || len(got) != hash.Size(h) {
		t.Fatalf("Sum(%d, %d bytes): %d bytes, error %d", h, len(b), len(got), e)
	}
	return got
}

// direct is the hash that the layers below answer.
func direct(h int, b []byte) []byte {
	return map[int]func([]byte) []byte{1: sha256.Sum, 2: sha512.Sum384, 3: sha512.Sum}[h](b)
}

// askSums holds the hashes of bytes against the digits of those that they should be, in the order of the numbers.
func askSums(t *testing.T, b []byte, want ...string) {
	t.Helper()
	for i, h := range allHashes {
		if got := hex.EncodeToString(sumOf(t, h, b)); got != want[i] {
			t.Errorf("Sum(%d) of %d bytes %.5x..: %s, not %s", h, len(b), b, got, want[i])
		}
	}
}

// The chapter's first words.
func TestNumbers(t *testing.T) {
	if api.SHA256 != 1 || api.SHA384 != 2 || api.SHA512 != 3 || api.ErrHash != 130 {
		t.Error(api.SHA256, api.SHA384, api.SHA512, api.ErrHash)
	}
}

// P13.1
func TestSize(t *testing.T) {
	for i, want := range []int{32, 48, 64} {
		if got := hash.Size(allHashes[i]); got != want {
			t.Errorf("Size(%d): %d, not %d", allHashes[i], got, want)
		}
	}
	for _, h := range noHashes() {
		if got := hash.Size(h); got != 0 {
			t.Errorf("Size(%d): %d", h, got)
		}
	}
}

// P13.1 of texts whose hashes are known.
func TestSumOfTexts(t *testing.T) {
	for _, c := range []struct{ text, want256, want384, want512 string }{
		{"",
			"e3b0c44298fc1c149afbf4c8996fb92427ae41e4649b934ca495991b7852b855",
			"38b060a751ac96384cd9327eb1b1e36a21fdb71114be07434c0cc7bf63f6e1da274edebfe76f65fbd51ad2f14898b95b",
			"cf83e1357eefb8bdf1542850d66d8007d620e4050b5715dc83f4a921d36ce9ce47d0d13c5d85f2b0ff8318d2877eec2f63b931bd47417a81a538327af927da3e"},
		{"a",
			"ca978112ca1bbdcafac231b39a23dc4da786eff8147c4e72b9807785afee48bb",
			"54a59b9f22b0b80880d8427e548b7c23abd873486e1f035dce9cd697e85175033caa88e6d57bc35efae0b5afd3145f31",
			"1f40fc92da241694750979ee6cf582f2d5d7d28e18335de05abc54d0560e0f5302860c652bf08d560252aa5e74210546f369fbbbce8c12cfc7957b2652fe9a75"},
		{"abc",
			"ba7816bf8f01cfea414140de5dae2223b00361a396177a9cb410ff61f20015ad",
			"cb00753f45a35e8bb5a03d699ac65007272c32ab0eded1631a8b605a43ff5bed8086072ba1e7cc2358baeca134c825a7",
			"ddaf35a193617abacc417349ae20413112e6fa4e89a97ea20a9eeee64b55d39a2192992a274fc1a836ba3c23a3feebbd454d4423643ce80e2a9ac94fa54ca49f"},
		{"abcdbcdecdefdefgefghfghighijhijkijkljklmklmnlmnomnopnopq",
			"248d6a61d20638b8e5c026930c3e6039a33ce45964ff2167f6ecedd419db06c1",
			"3391fdddfc8dc7393707a65b1b4709397cf8b1d162af05abfe8f450de5f36bc6b0455a8520bc4e6f5fe95b1fe3c8452b",
			"204a8fc6dda82f0a0ced7beb8e08a41657c16ef468b228a8279be331a703c33596fd15c13b1b07f9aa1d3bea57789ca031ad85c7a71dd70354ec631238ca3445"},
		{"abcdefghbcdefghicdefghijdefghijkefghijklfghijklmghijklmnhijklmnoijklmnopjklmnopqklmnopqrlmnopqrsmnopqrstnopqrstu",
			"cf5b16a778af8380036ce59e7b0492370b249b11e8f07a51afac45037afee9d1",
			"09330c33f71147e83d192fc782cd1b4753111b173b3b05d22fa08086e3b0f712fcc7c71a557e2db966c3e9fa91746039",
			"8e959b75dae313da8cf4f72814fc143f8f7779c6eb9f7fa17299aeadb6889018501d289e4900f7e4331b99dec4b5433ac7d329eeb6dd26545e96e55b874be909"},
	} {
		askSums(t, []byte(c.text), c.want256, c.want384, c.want512)
	}
}

// P13.1 of lengths at the edges of blocks of 64 and of 128 bytes and of what stands behind them, and of many blocks.
func TestSumOfLengths(t *testing.T) {
	for _, c := range []struct {
		n                         int
		want256, want384, want512 string
	}{
		{1,
			"6e340b9cffb37a989ca544e6bb780a2c78901d3fb33738768511a30617afa01d",
			"bec021b4f368e3069134e012c2b4307083d3a9bdd206e24e5f0d86e13d6636655933ec2b413465966817a9c208a11717",
			"b8244d028981d693af7b456af8efa4cad63d282e19ff14942c246e50d9351d22704a802a71c3580b6370de4ceb293c324a8423342557d4e5c38438f0e36910ee"},
		{55,
			"463eb28e72f82e0a96c0a4cc53690c571281131f672aa229e0d45ae59b598b59",
			"dcedb6b590edb4efa849c801e6b6490657a5c1e64f69269f5f63c9267f6223de24cea7aaa6b267d9bcecc15147b6c875",
			"6856647f269c2ee3d8128f0b25427659d880641ef343300dd3cd4679168f58d6527fda70b4ebc854e2065e172b7d58c1536992c0810599259ba84a2b40c65414"},
		{56,
			"da2ae4d6b36748f2a318f23e7ab1dfdf45acdc9d049bd80e59de82a60895f562",
			"7b9132d597b8873ad55bbc30f18ed3f2c9f340e7de69fb5774056c71a06d9bc2b14137e9e1c68b6b645fed28b188249d",
			"8b12b2f6fe400a51d29656e2b8c42a1bbfe6fcf3e425da430db05d1a2dda14790dee20fa8b22d8762afffe4988a5c98a4430d22a17e41e23d90fa61ab75671a9"},
		{63,
			"29af2686fd53374a36b0846694cc342177e428d1647515f078784d69cdb9e488",
			"dd66b519f51a925814407a449c60b34c553d7652d41783ee903a810a4c9f833b8181c91c7f12283eacd6a5f8a2639ddf",
			"9dc9c5598e55dc42955695320839788e353f1d7f6ba74df74c80a8a52f463c0697f57f68835d1418f4ce9b6530cd79bd0f4c6f7e13c93feb1218c0b65c2c0561"},
		{64,
			"fdeab9acf3710362bd2658cdc9a29e8f9c757fcf9811603a8c447cd1d9151108",
			"9f2c9eb7116b3d7a4ba84a74a4d4eff8a5efcf54b6d7b662693c38577914c73a214766f0a175339bb0895a863824fc0a",
			"ee4320ebaf3fdb4f2c832b137200c08e235e0fa7bbd0eb1740c7063ba8a0d151da77e003398e1714a955d475b05e3e950b639503b452ec185de4229bc4873949"},
		{65,
			"4bfd2c8b6f1eec7a2afeb48b934ee4b2694182027e6d0fc075074f2fabb31781",
			"14b0a9ffce149426bf5045ffc24c057451d2473186deb4f150117b855911a7641651fb1e15df406eb373d71151c46f25",
			"02856cef735f9acec6b9e33f0fbc8f9804d2aa54187f382b8ae842e5d3696c07459aad2a5aed25ea5e117eb1c7ba35da6a7a8adce9e6afe3ad79e9fa42d5bba8"},
		{111,
			"60780e9451bdc43cf4530ffc95cbb0c4eb24dae2c39f55f334d679e076c08065",
			"f5f9fe110d809d34029de262a01b208356caec6e054c7f926b2591f6c9780579d4b59f5578c6f531a84f158a33660cef",
			"a1a111449b198d9b1f538bad7f3fc1022b3a5b1a5e90a0bc860de8512746cbc31599e6c834de3a3235327af0b51ff57bf7acf1974a73014d9c3953812edc7c8d"},
		{112,
			"09373f127d34e61dbbaa8bc4499c87074f2ddb10e1b465f506d7d70a15011979",
			"33ba080ec0ccb378e4e95fed3b26c23aa1a280476e007519ee47f60cd9c5c8a65d627259a9aa2fd33ca06d3c14ee5548",
			"c5fbd731d19d2ae1180f001be72c2c1aaba1d7b094b3748880e24593b8e117a750e11c1bd867cc2f96dace8c8b74abd2d5c4f236be444e77d30d1916174070b9"},
		{119,
			"da18797ed7c3a777f0847f429724a2d8cd5138e6ed2895c3fa1a6d39d18f7ec6",
			"0c8d3031d85cefa23a09e13ce03623f0e648a030e43700c82aa1c8aa7e3ea9cecef3029a23815ad940cc39adb7747d2f",
			"43e497279c2ce805903a33b54b746ea92d607f7c4807986c849823b81097a9099b5896ac7cc66df3a93edc8a91b6f3971d6c7f5688daf635737760bd080e27b3"},
		{120,
			"f52b23db1fbb6ded89ef42a23ce0c8922c45f25c50b568a93bf1c075420bbb7c",
			"0577ad6090b2a39ffa1c4a25436f9e958890c55a5b23cf8cee8195a5984316d81d6cf0b5916c0ad8b1f512fb39826c6d",
			"9636708964c5ff6600510319e07bf3fcfcb1f4058fec278efb677964ba1e140c1632505452f802e99bcf09da3d456dc3868d149a0788a730e49d239ce7415145"},
		{127,
			"92ca0fa6651ee2f97b884b7246a562fa71250fedefe5ebf270d31c546bfea976",
			"d5fcfe2fcf6b3ef375ede37c8123d9b78065fecc1d55197e2f7721e6e9a93d0ba4d7fd15f9b96dea2744df24141ba2ef",
			"eab89674feaa34e27aebeeff3c0a4d70070bb872d5e9f186cf1dbbdee517b6e35724d629ff025a5b07185e911ada7e3c8acf830aa0e4f71777bd2d44f504f7f0"},
		{128,
			"471fb943aa23c511f6f72f8d1652d9c880cfa392ad80503120547703e56a2be5",
			"ca2385773319124534111a36d0581fc3f00815e907034b90cff9c3a861e126a741d5dfcff65a417b6d7296863ac0ec17",
			"1dffd5e3adb71d45d2245939665521ae001a317a03720a45732ba1900ca3b8351fc5c9b4ca513eba6f80bc7b1d1fdad4abd13491cb824d61b08d8c0e1561b3f7"},
		{129,
			"5099c6a56203f9687f7d33f4bfdf576d31dc91f6b695ecea38b2770c87631135",
			"ef49ae5b9ad51433d00323528d81ea8d2e4d2b507dbd9f1cb84f952b66249a788b1c89fcdb77a0db9f1feb901d47fc73",
			"1d9da57fbbdab09afb3506ab2d223d06109d65c1c8ad197f50138f714bc4c3f2fe5787922639c680acad1c651f955990425954ce2cba0c5cc83f2667d878eb0f"},
		{239,
			"5e1c10284710f5c2db48f88de3d051579643a1ed042afa846a7844895351a77b",
			"2556cf077a788c49bb6d600f4a3cee635c4443832d169f761537afee2980742b9f34afbc87f598dd0aedc4a826ed6a73",
			"cb4c7fd522756d5781ad3a4f590a1d862906b960e7720136cb3fb36b563caa1ea5689134291fa79c80ccc2b4092b41df32ebdcb36dbe79db483440228c1622a8"},
		{240,
			"abf4bafcddb38bbf3855e47b5e61b75dedbcf42aa44ffd4bb85d0b08d97e2682",
			"d64769ad58f5a338669b935f3431e5bef31667d0a2437bff78f1e5275075f434fff675f9833ea04ac4e5c2e2c2c99b8c",
			"6c48466c9f6c07e4ab762c696b7eeb35cfe236fca73683e5fab873ac3489b4d2eb3d7afcce7e8165dbbf37aded3b5b0c889c0b7e0f1790a8330d8677429d91a5"},
		{255,
			"3f8591112c6bbe5c963965954e293108b7208ed2af893e500d859368c654eabe",
			"98d7ac796c4cfb5d98a1c323656a4be8afaaad168e5ee72b6b7a3fa3260461a043e27243120d41584b58f1ae4463121a",
			"15025c9d135861ff5a549df0bfd6c398fd126613496d4e97627651e68b7b1f80407f187d7978464f0f78bfeea787600faaebbe991eddb60671cd0ce874f0a744"},
		{256,
			"40aff2e9d2d8922e47afd4648e6967497158785fbd1da870e7110266bf944880",
			"ffdaebff65ed05cf400f0221c4ccfb4b2104fb6a51f87e40be6c4309386bfdec2892e9179b34632331a59592737db5c5",
			"1e7b80bc8edc552c8feeb2780e111477e5bc70465fac1a77b29b35980c3f0ce4a036a6c9462036824bd56801e62af7e9feba5c22ed8a5af877bf7de117dcac6d"},
		{1000,
			"a8af099bf2e878609558dbf69d8f88f4a31040a8cf84b549a0cfa912f12ffc3f",
			"cfe84a17cb1c1c9d4e7d1b1f5e7aee4ba0fa7ccaafe00c80b20b94ef4250ecae24321940e3e66510732fe32f386e4cc7",
			"6cd2eda9bf9c0597129029b0054b81e433f6b8b7b499a75eb705efd74bac194149835b1d1a14c48be696e4d588456d512a22eae7aa1b57be2b56eae7d35e08cb"},
		{100000,
			"db8f1d69251d95e2c88268d3c540533cc5182e0e33065a6f3f322f606a574489",
			"d9d2f924774d1b0a8315351c375a32a5709227fca44f6fc335e14763be18915c8c770f4b15a1477ec6dd62f2913d819e",
			"9e4df8a620ca0355c8108d5f5b1ea9574f63759ce31cbef8e4ff1057501969cffd9d022ae3dcbb2d3314cf3497d97aeeb39fc0fe55167bf7f61883ef01046a65"},
	} {
		askSums(t, counting(c.n), c.want256, c.want384, c.want512)
	}
}

// P13.1 against the layers below.
func TestSumIsDirect(t *testing.T) {
	lengths := []int{1000, 1023, 1024, 1025, 4096, 70000}
	for n := range 400 {
		lengths = append(lengths, n)
	}
	for _, n := range lengths {
		for _, b := range [][]byte{mixture(n, uint64(n)), make([]byte, n), bytes.Repeat([]byte{255}, n)} {
			for _, h := range allHashes {
				if got, want := sumOf(t, h, b), direct(h, b); !bytes.Equal(got, want) {
					t.Errorf("Sum(%d) of %d bytes: %x, not %x", h, n, got, want)
				}
			}
		}
	}
}

// P3: no bytes are no bytes, whether the slice is nil, empty, or has room.
func TestSumOfNone(t *testing.T) {
	for _, h := range allHashes {
		want := direct(h, nil)
		for _, b := range [][]byte{nil, {}, counting(300)[:0], counting(300)[300:]} {
			if got := sumOf(t, h, b); !bytes.Equal(got, want) {
				t.Errorf("Sum(%d) of none: %x, not %x", h, got, want)
			}
		}
	}
}

// P13.1, P4: of no hash, ErrHash and no bytes.
func TestSumRefuses(t *testing.T) {
	for _, h := range noHashes() {
		for _, b := range [][]byte{nil, {}, []byte("abc"), counting(200)} {
			if got, e := hash.Sum(h, b); len(got) != 0 || e != api.ErrHash {
				t.Errorf("Sum(%d, %d bytes): %x, error %d", h, len(b), got, e)
			}
		}
	}
}

// P13.2
func TestName(t *testing.T) {
	for i, want := range []string{"sha256", "sha384", "sha512"} {
		if got := hash.Name(allHashes[i]); got != want {
			t.Errorf("Name(%d): %q, not %q", allHashes[i], got, want)
		}
	}
	for _, h := range noHashes() {
		if got := hash.Name(h); got != "" {
			t.Errorf("Name(%d): %q", h, got)
		}
	}
}

// P13.2
func TestOf(t *testing.T) {
	for i, name := range []string{"sha256", "sha384", "sha512"} {
		if got := hash.Of(name); got != allHashes[i] {
			t.Errorf("Of(%q): %d, not %d", name, got, allHashes[i])
		}
	}
	for _, h := range allHashes {
		if got := hash.Of(hash.Name(h)); got != h {
			t.Errorf("Of(Name(%d)): %d", h, got)
		}
	}
	for _, h := range noHashes() {
		if got := hash.Of(hash.Name(h)); got != 0 {
			t.Errorf("Of(Name(%d)): %d", h, got)
		}
	}
}

// P13.2 of names that are near one, but none.
func TestOfNone(t *testing.T) {
	wrong := []string{"", " ", "0", "1", "2", "3", "256", "384", "512", "md5", "sha", "sha1", "sha224", "sha2", "sha3", "sha513", "sha-256", "sha_384", "SHA-512", "sha512/256", "sha256sha384", "\x00", "\xff", strings.Repeat("sha256", 1000)}
	for _, name := range []string{"sha256", "sha384", "sha512"} {
		wrong = append(wrong, strings.ToUpper(name), "S"+name[1:], "sHa"+name[3:], name[:3]+" "+name[3:])
		for _, more := range []string{" ", "\t", "\n", "\x00", "0", "6", "a", "-", "\u00e9", "\xff"} {
			wrong = append(wrong, name+more, more+name)
		}
		for i := range name {
			other := []byte(name)
			other[i] ^= 1
			wrong = append(wrong, name[:i], name[i+1:], name[:i]+name[i+1:], string(other))
		}
	}
	for _, name := range wrong {
		if got := hash.Of(name); got != 0 {
			t.Errorf("Of(%q): %d", name, got)
		}
	}
}

// P13.3, the chapter's example among them.
func TestPrefix(t *testing.T) {
	for i, want := range [][]byte{
		{48, 49, 48, 13, 6, 9, 96, 134, 72, 1, 101, 3, 4, 2, 1, 5, 0, 4, 32},
		{48, 65, 48, 13, 6, 9, 96, 134, 72, 1, 101, 3, 4, 2, 2, 5, 0, 4, 48},
		{48, 81, 48, 13, 6, 9, 96, 134, 72, 1, 101, 3, 4, 2, 3, 5, 0, 4, 64},
	} {
		if got := hash.Prefix(allHashes[i]); !bytes.Equal(got, want) {
			t.Errorf("Prefix(%d): %d, not %d", allHashes[i], got, want)
		}
	}
	for _, h := range noHashes() {
		if got := hash.Prefix(h); len(got) != 0 {
			t.Errorf("Prefix(%d): %d", h, got)
		}
	}
}

// P2: the bytes stand in a list with more behind it, of which nothing may be read, written or handed out.
func TestNothingChanged(t *testing.T) {
	for _, h := range []int{0, 1, 2, 3, 4} {
		for _, n := range []int{0, 1, 55, 56, 64, 111, 112, 127, 128, 129, 1000} {
			room := mixture(n+400, 7)
			before := slices.Clone(room)
			b := room[200 : 200+n]
			got, e := hash.Sum(h, b)
			if !bytes.Equal(room, before) {
				t.Errorf("bytes are changed by Sum(%d) of %d of them", h, n)
			}
			alone, same := hash.Sum(h, slices.Clip(slices.Clone(b)))
			if !bytes.Equal(got, alone) || e != same {
				t.Errorf("Sum(%d) of %d bytes hangs on what is beside them", h, n)
			}
			clear(got[:cap(got)])
			if !bytes.Equal(room, before) {
				t.Errorf("Sum(%d) of %d bytes shares memory with them", h, n)
			}
		}
	}
}

// P2, P3: what is answered is kept nowhere, and no two answers share memory.
func TestAnswersAreNew(t *testing.T) {
	b := counting(200)
	ask := func() [][]byte {
		var list [][]byte
		for _, h := range allHashes {
			list = append(list, sumOf(t, h, b), hash.Prefix(h))
		}
		return list
	}
	var want [][]byte
	for _, answer := range ask() {
		want = append(want, slices.Clone(answer))
	}
	for range 3 {
		for i, answer := range ask() {
			if !bytes.Equal(answer, want[i]) {
				t.Fatalf("another answer than before: %x, not %x", answer, want[i])
			}
			clear(answer[:cap(answer)])
		}
	}
}
