package sha512_test

import (
	"bytes"
	"encoding/hex"
	"math"
	"slices"
	"testing"

	"sconce/sha512"
)

// noughts has n bytes, all 0.
func noughts(n int) []byte {
	return make([]byte, n)
}

// letters has n bytes, all of them the letter a.
func letters(n int) []byte {
	return bytes.Repeat([]byte("a"), n)
}

// counting has n bytes: 0, 1, 2 and so on, from 0 again behind 255.
func counting(n int) []byte {
	b := make([]byte, n)
	for i := range b {
		b[i] = byte(i)
	}
	return b
}

// mixture has n bytes that are spread, others for each seed.
func mixture(n int, seed uint64) []byte {
	b := make([]byte, n)
	w := 0x9e3779b97f4a7c15 * (2*seed + 1)
	for i := range b {
		w ^= w << 13
		w ^= w >> 7
		w ^= w << 17
		b[i] = byte(w >> 32)
	}
	return b
}

// mixedState has words that are spread, others for each seed.
func mixedState(seed uint64) [8]uint64 {
	var s [8]uint64
	for i, b := range mixture(64, seed) {
		s[i/8] = s[i/8]<<8 | uint64(b)
	}
	return s
}

// allWords is a state of one word, eight times.
func allWords(w uint64) [8]uint64 {
	return [8]uint64{w, w, w, w, w, w, w, w}
}

// sumOf is what Sum answers, which has to be 64 bytes.
func sumOf(t *testing.T, b []byte) []byte {
	t.Helper()
	got := sha512.Sum(b)
	if len(got) != 64 {
		t.Fatalf("Sum of %d bytes has %d bytes: %x", len(b), len(got), got)
	}
	return got
}

// shortOf is what Sum384 answers, which has to be 48 bytes.
func shortOf(t *testing.T, b []byte) []byte {
	t.Helper()
	got := sha512.Sum384(b)
	if len(got) != 48 {
		t.Fatalf("Sum384 of %d bytes has %d bytes: %x", len(b), len(got), got)
	}
	return got
}

// blockOf is what Block answers of 128 bytes, which it has to take.
func blockOf(t *testing.T, s [8]uint64, b []byte) [8]uint64 {
	t.Helper()
	got, is := sha512.Block(s, b)
	if !is {
		t.Fatalf("Block(%x, %x) is refused", s, b)
	}
	return got
}

// stateOf is the state that comes of s by Block of each block of b and of what Pad says stands behind it.
func stateOf(t *testing.T, s [8]uint64, b []byte) [8]uint64 {
	t.Helper()
	all := slices.Concat(b, sha512.Pad(len(b)))
	if len(all)%128 != 0 {
		t.Fatalf("%d bytes and Pad are no whole blocks: %d", len(b), len(all))
	}
	for block := range slices.Chunk(all, 128) {
		s = blockOf(t, s, block)
	}
	return s
}

// askSums holds both hashes of bytes against the digits of those that they should be.
func askSums(t *testing.T, b []byte, want, want384 string) {
	t.Helper()
	if got := hex.EncodeToString(sumOf(t, b)); got != want {
		t.Errorf("Sum of %d bytes %.5x..: %s, not %s", len(b), b, got, want)
	}
	if got := hex.EncodeToString(shortOf(t, b)); got != want384 {
		t.Errorf("Sum384 of %d bytes %.5x..: %s, not %s", len(b), b, got, want384)
	}
}

// The chapter's first words: the slow K, H and H' are those that it names, and so are the tables by the tests that go by them.
func TestRoots(t *testing.T) {
	r := newSlow()
	if r.k[0] != 0x428a2f98d728ae22 || r.k[79] != 0x6c44198c4a475817 {
		t.Errorf("K: %x", r.k)
	}
	if r.long[0] != 0x6a09e667f3bcc908 || r.long[7] != 0x5be0cd19137e2179 {
		t.Errorf("H: %x", r.long)
	}
	if r.short[0] != 0xcbbb9d5dc1059ed8 || r.short[7] != 0x47b5481dbefa4fa4 {
		t.Errorf("H': %x", r.short)
	}
}

// P12.1
func TestStart(t *testing.T) {
	r := newSlow()
	for _, c := range []struct {
		short       bool
		want, again [8]uint64
	}{
		{false, r.long, [8]uint64{0x6a09e667f3bcc908, 0xbb67ae8584caa73b, 0x3c6ef372fe94f82b, 0xa54ff53a5f1d36f1, 0x510e527fade682d1, 0x9b05688c2b3e6c1f, 0x1f83d9abfb41bd6b, 0x5be0cd19137e2179}},
		{true, r.short, [8]uint64{0xcbbb9d5dc1059ed8, 0x629a292a367cd507, 0x9159015a3070dd17, 0x152fecd8f70e5939, 0x67332667ffc00b31, 0x8eb44a8768581511, 0xdb0c2e0d64f98fa7, 0x47b5481dbefa4fa4}},
	} {
		got := sha512.Start(c.short)
		if got != c.want || got != c.again {
			t.Errorf("Start(%t): %x, not %x", c.short, got, c.want)
		}
		got[0]++
		if sha512.Start(c.short) != c.want {
			t.Errorf("Start(%t) hands out what it keeps", c.short)
		}
	}
}

// P12.1 of texts whose hashes are known, the chapter's example among them.
func TestSumOfTexts(t *testing.T) {
	for _, c := range []struct{ text, want, want384 string }{
		{"",
			"cf83e1357eefb8bdf1542850d66d8007d620e4050b5715dc83f4a921d36ce9ce47d0d13c5d85f2b0ff8318d2877eec2f63b931bd47417a81a538327af927da3e",
			"38b060a751ac96384cd9327eb1b1e36a21fdb71114be07434c0cc7bf63f6e1da274edebfe76f65fbd51ad2f14898b95b"},
		{"abc",
			"ddaf35a193617abacc417349ae20413112e6fa4e89a97ea20a9eeee64b55d39a2192992a274fc1a836ba3c23a3feebbd454d4423643ce80e2a9ac94fa54ca49f",
			"cb00753f45a35e8bb5a03d699ac65007272c32ab0eded1631a8b605a43ff5bed8086072ba1e7cc2358baeca134c825a7"},
		{"abcdbcdecdefdefgefghfghighijhijkijkljklmklmnlmnomnopnopq",
			"204a8fc6dda82f0a0ced7beb8e08a41657c16ef468b228a8279be331a703c33596fd15c13b1b07f9aa1d3bea57789ca031ad85c7a71dd70354ec631238ca3445",
			"3391fdddfc8dc7393707a65b1b4709397cf8b1d162af05abfe8f450de5f36bc6b0455a8520bc4e6f5fe95b1fe3c8452b"},
		{"abcdefghbcdefghicdefghijdefghijkefghijklfghijklmghijklmnhijklmnoijklmnopjklmnopqklmnopqrlmnopqrsmnopqrstnopqrstu",
			"8e959b75dae313da8cf4f72814fc143f8f7779c6eb9f7fa17299aeadb6889018501d289e4900f7e4331b99dec4b5433ac7d329eeb6dd26545e96e55b874be909",
			"09330c33f71147e83d192fc782cd1b4753111b173b3b05d22fa08086e3b0f712fcc7c71a557e2db966c3e9fa91746039"},
	} {
		askSums(t, []byte(c.text), c.want, c.want384)
	}
}

// P12.1 of lengths at the edges of blocks and of what stands behind them, and of many blocks.
func TestSumOfLengths(t *testing.T) {
	for _, c := range []struct {
		n             int
		kind          func(int) []byte
		want, want384 string
	}{
		{1, noughts,
			"b8244d028981d693af7b456af8efa4cad63d282e19ff14942c246e50d9351d22704a802a71c3580b6370de4ceb293c324a8423342557d4e5c38438f0e36910ee",
			"bec021b4f368e3069134e012c2b4307083d3a9bdd206e24e5f0d86e13d6636655933ec2b413465966817a9c208a11717"},
		{1, letters,
			"1f40fc92da241694750979ee6cf582f2d5d7d28e18335de05abc54d0560e0f5302860c652bf08d560252aa5e74210546f369fbbbce8c12cfc7957b2652fe9a75",
			"54a59b9f22b0b80880d8427e548b7c23abd873486e1f035dce9cd697e85175033caa88e6d57bc35efae0b5afd3145f31"},
		{1, counting,
			"b8244d028981d693af7b456af8efa4cad63d282e19ff14942c246e50d9351d22704a802a71c3580b6370de4ceb293c324a8423342557d4e5c38438f0e36910ee",
			"bec021b4f368e3069134e012c2b4307083d3a9bdd206e24e5f0d86e13d6636655933ec2b413465966817a9c208a11717"},
		{3, noughts,
			"6d518f8b31d1882feace10a9215f5d8cf5afe037652a1d11d9c1408d988c2a4f71a5edfc85d0712fa3f4e21b2c0a244c8c0d333bab454311e24067d2a83e5e59",
			"cd6bd1dcfebeffe9bb9ee705724f0312b5972417bc69473b520598d6d3ab910cebbdff8bdcc9cfbbe6ae543d2657b2ab"},
		{3, letters,
			"d6f644b19812e97b5d871658d6d3400ecd4787faeb9b8990c1e7608288664be77257104a58d033bcf1a0e0945ff06468ebe53e2dff36e248424c7273117dac09",
			"8e07e5bdd64aa37536c1f257a6b44963cc327b7d7dcb2cb47a22073d33414462bfa184487cf372ce0a19dfc83f8336d8"},
		{3, counting,
			"8081da5f9c1e3d0e1aa16f604d5e5064543cff5d7bace2bb312252461e151b3fe0f034ea8dc1dacff3361a892d625fbe1b614cda265f87a473c24b0fa1d91dfd",
			"4f895854c1a4fc5aa2e0456eaf8d0ecaa70c196bd901153861d76b8fa3cd95ceea29eab6a279f8b08437703ce0b4b91a"},
		{64, noughts,
			"7be9fda48f4179e611c698a73cff09faf72869431efee6eaad14de0cb44bbf66503f752b7a8eb17083355f3ce6eb7d2806f236b25af96a24e22b887405c20081",
			"c516aa8d3b457c636c6826937099c0d23a13f2c3701a388b3c8fe4bc2073281b0c4462610369884c4ababa8e97b6debe"},
		{64, letters,
			"01d35c10c6c38c2dcf48f7eebb3235fb5ad74a65ec4cd016e2354c637a8fb49b695ef3c1d6f7ae4cd74d78cc9c9bcac9d4f23a73019998a7f73038a5c9b2dbde",
			"2e404b9339da795776e510d96930b3be2904c500395b8cb7413334b82d4dec413b4b8113045a05bbbcff846f027423f6"},
		{64, counting,
			"ee4320ebaf3fdb4f2c832b137200c08e235e0fa7bbd0eb1740c7063ba8a0d151da77e003398e1714a955d475b05e3e950b639503b452ec185de4229bc4873949",
			"9f2c9eb7116b3d7a4ba84a74a4d4eff8a5efcf54b6d7b662693c38577914c73a214766f0a175339bb0895a863824fc0a"},
		{110, noughts,
			"1c5c8d28e1b0088005604e2d0325a521449955f05f8544da497c875377e9dc73e4550f04dbb8a2d370af70036522b43fcec2b78b5cd01875a384a40eaad519fd",
			"e8e4490b7d0a55698e6ff6e86a356209a91cccda13f1c7377349625db7db902c98979f0c20bdf9124683e65465d2ecc8"},
		{110, letters,
			"c825949632e509824543f7eaf159fb6041722fce3c1cdcbb613b3d37ff107c519417baac32f8e74fe29d7f4823bf6886956603dca5354a6ed6e4a542e06b7d28",
			"fdd9b07d037fa821fe5dbea36ed94cc93149dd743f0415e8ca4eae5e2bcf7a07e20375a8c91e10c0a06b1c16fb47a216"},
		{110, counting,
			"51f2ba331c24541efec042cc66398d388348c4fedc3f77a4ddfda39752ae2880c68e0465c15b07abfd93e16ba635ae7ca7d7e144018ade57607de8643992f50b",
			"8f1e4237fbb668d2705fa6964ff50014f54ab6346a7decc8dbaa282b51803de20f9090e7af2e6b40fd8a138afe25e1bc"},
		{111, noughts,
			"77ddd3a542e530fd047b8977c657ba6ce72f1492e360b2b2212cd264e75ec03882e4ff0525517ab4207d14c70c2259ba88d4d335ee0e7e20543d22102ab1788c",
			"435770712c611be7293a66dd0dc8d1450dc7ff7337bfe115bf058ef2eb9bed09cee85c26963a5bcc0905dc2df7cc6a76"},
		{111, letters,
			"fa9121c7b32b9e01733d034cfc78cbf67f926c7ed83e82200ef86818196921760b4beff48404df811b953828274461673c68d04e297b0eb7b2b4d60fc6b566a2",
			"3c37955051cb5c3026f94d551d5b5e2ac38d572ae4e07172085fed81f8466b8f90dc23a8ffcdea0b8d8e58e8fdacc80a"},
		{111, counting,
			"a1a111449b198d9b1f538bad7f3fc1022b3a5b1a5e90a0bc860de8512746cbc31599e6c834de3a3235327af0b51ff57bf7acf1974a73014d9c3953812edc7c8d",
			"f5f9fe110d809d34029de262a01b208356caec6e054c7f926b2591f6c9780579d4b59f5578c6f531a84f158a33660cef"},
		{112, noughts,
			"2be2e788c8a8adeaa9c89a7f78904cacea6e39297d75e0573a73c756234534d6627ab4156b48a6657b29ab8beb73334040ad39ead81446bb09c70704ec707952",
			"3e0cbf3aee0e3aa70415beae1bd12dd7db821efa446440f12132edffce76f635e53526a111491e75ee8e27b9700eec20"},
		{112, letters,
			"c01d080efd492776a1c43bd23dd99d0a2e626d481e16782e75d54c2503b5dc32bd05f0f1ba33e568b88fd2d970929b719ecbb152f58f130a407c8830604b70ca",
			"187d4e07cb306103c69967bf544d0dfbe9042577599c73c330abc0cb64c61236d5ed565ee19119d8c31779a38f791fcd"},
		{112, counting,
			"c5fbd731d19d2ae1180f001be72c2c1aaba1d7b094b3748880e24593b8e117a750e11c1bd867cc2f96dace8c8b74abd2d5c4f236be444e77d30d1916174070b9",
			"33ba080ec0ccb378e4e95fed3b26c23aa1a280476e007519ee47f60cd9c5c8a65d627259a9aa2fd33ca06d3c14ee5548"},
		{113, noughts,
			"0e67910bcf0f9ccde5464c63b9c850a12a759227d16b040d98986d54253f9f34322318e56b8feb86c5fb2270ed87f31252f7f68493ee759743909bd75e4bb544",
			"6be9af2cf3cd5dd12c8d9399ec2b34e66034fbd699d4e0221d39074172a380656089caafe8f39963f94cc7c0a07e3d21"},
		{113, letters,
			"55ddd8ac210a6e18ba1ee055af84c966e0dbff091c43580ae1be703bdb85da31acf6948cf5bd90c55a20e5450f22fb89bd8d0085e39f85a86cc46abbca75e24d",
			"1d6bed01626682961b50da078a6b1da707c1da0c8a0a3226f159235bd45ed724a0622fa6f39fd70007a6c72a5cda43ae"},
		{113, counting,
			"61b2e77db697dfe5571fff3ed06bd60c41e1e7b7c08a80de01cb16526d9a9a52d690dfbe792278a60f6e2b4c57a97c729773f26e258d2393890c985d645f6715",
			"f14fc73c4192759b70993dc35fbee193a60a98dbd1f8b2421afa253dec63015a0d6b75fb50f9f9a5f7fb8e7241540699"},
		{127, noughts,
			"876fee26a8dc66d652341b4951d4a96f4f2652803231ed5ec625bbe0d5c49ea70941f5299d775a1ace2291fc33b26016f73c81acde83b3c495be55b6916890a1",
			"485709a91f9846d3eb9824335106532fde8bfd5d770408e0899d99db5bf85b79ba04630d1e6d13f9f336915daf7c1d1d"},
		{127, letters,
			"828613968b501dc00a97e08c73b118aa8876c26b8aac93df128502ab360f91bab50a51e088769a5c1eff4782ace147dce3642554199876374291f5d921629502",
			"9bd06b1763c2cf7aef40e795dc65bc96d59c41b537f3ad72ebdefd485476b5717c1aeb37c327fe9c1831b12b9efd08ae"},
		{127, counting,
			"eab89674feaa34e27aebeeff3c0a4d70070bb872d5e9f186cf1dbbdee517b6e35724d629ff025a5b07185e911ada7e3c8acf830aa0e4f71777bd2d44f504f7f0",
			"d5fcfe2fcf6b3ef375ede37c8123d9b78065fecc1d55197e2f7721e6e9a93d0ba4d7fd15f9b96dea2744df24141ba2ef"},
		{128, noughts,
			"ab942f526272e456ed68a979f50202905ca903a141ed98443567b11ef0bf25a552d639051a01be58558122c58e3de07d749ee59ded36acf0c55cd91924d6ba11",
			"f809b88323411f24a6f152e5e9d9d1b5466b77e0f3c7550f8b242c31b6e7b99bcb45bdecb6124bc23283db3b9fc4f5b3"},
		{128, letters,
			"b73d1929aa615934e61a871596b3f3b33359f42b8175602e89f7e06e5f658a243667807ed300314b95cacdd579f3e33abdfbe351909519a846d465c59582f321",
			"edb12730a366098b3b2beac75a3bef1b0969b15c48e2163c23d96994f8d1bef760c7e27f3c464d3829f56c0d53808b0b"},
		{128, counting,
			"1dffd5e3adb71d45d2245939665521ae001a317a03720a45732ba1900ca3b8351fc5c9b4ca513eba6f80bc7b1d1fdad4abd13491cb824d61b08d8c0e1561b3f7",
			"ca2385773319124534111a36d0581fc3f00815e907034b90cff9c3a861e126a741d5dfcff65a417b6d7296863ac0ec17"},
		{129, noughts,
			"b1f542f68a48608ae53904fbe2105bd8f3e544941abb38ec9d24cb7a26f916ef94cfb431cce0c64077dc2934913130d78492914a5e9ffc52f311e68217caef15",
			"3d27644477d56bfcf9142bee2cdeebb13dd5fac6b1cf3e0418a9ecaeae92d32e041c9596a0d25c3812546c78281e8964"},
		{129, letters,
			"4f681e0bd53cda4b5a2041cc8a06f2eabde44fb16c951fbd5b87702f07aeab611565b19c47fde30587177ebb852e3971bbd8d3fd30da18d71037dfbd98420429",
			"39b6f5a7b0e781dbc419f72e49b30eaac10f2c98c4403bc610da31067fd1b48f324138c8615d2b496d08d73d5e865326"},
		{129, counting,
			"1d9da57fbbdab09afb3506ab2d223d06109d65c1c8ad197f50138f714bc4c3f2fe5787922639c680acad1c651f955990425954ce2cba0c5cc83f2667d878eb0f",
			"ef49ae5b9ad51433d00323528d81ea8d2e4d2b507dbd9f1cb84f952b66249a788b1c89fcdb77a0db9f1feb901d47fc73"},
		{239, noughts,
			"5ab1250bc60e105fc71ab84c4866822778e8a40fda48be703be283d1acf7959933ec3024e196c8f4cb548012786f692eb210899323060f28254d3d47a7018205",
			"70fa2d4b4a97249db1789e4b1964b1eec6c3f7ce1ff87bad80833bb078d2f9a4c1dd7dccccabc8511fd22103245338b7"},
		{239, letters,
			"52c853cb8d907f3d4d6b889beb027985d7c273486d75f8baf26f80d24e90c74c6c3de3e22131582380a7d14d43f2941a31385439cd6ddc469f628015e50bf286",
			"e247c35f4bc1aa38026f8880c8c97305545d00d3f859e00c57d1c1f0a176b3c6b749c4eb081f08bd0fba500969cd056a"},
		{239, counting,
			"cb4c7fd522756d5781ad3a4f590a1d862906b960e7720136cb3fb36b563caa1ea5689134291fa79c80ccc2b4092b41df32ebdcb36dbe79db483440228c1622a8",
			"2556cf077a788c49bb6d600f4a3cee635c4443832d169f761537afee2980742b9f34afbc87f598dd0aedc4a826ed6a73"},
		{240, noughts,
			"ba21e55aa88dc8b12e13ebff9e67570177db6aacfb606658650397e6423937d882b1e1c93ed62d12de0dfd59791d78c6a73d68e55f343cfa1f85235daf3b89ec",
			"48d522370d1ba3dd4ddb6ff1c3b64e6ae96700480e1b63ec7750988d39e704ad7c7fc5e50f4d176b9fa68be954bec6ee"},
		{240, letters,
			"4c296d90c61052a62ffb1dd196f1b7b09373b1f93e71836baebf89690546b7595684dbe9467a8e484fa0d1094272b4344a7c24f5fee8daedeb0bf549c985ab5f",
			"4d86957beab348a29180f02d02564ac1d32f5b4c217ece2b038f7c184f0cafc8c8e438eb82aa03796170e0a7ce8c0675"},
		{240, counting,
			"6c48466c9f6c07e4ab762c696b7eeb35cfe236fca73683e5fab873ac3489b4d2eb3d7afcce7e8165dbbf37aded3b5b0c889c0b7e0f1790a8330d8677429d91a5",
			"d64769ad58f5a338669b935f3431e5bef31667d0a2437bff78f1e5275075f434fff675f9833ea04ac4e5c2e2c2c99b8c"},
		{255, noughts,
			"32aa05aca47a17b6afdbadabe83e929e5a55777c5f5ddb0c854ae78ef403a2baeda46e7f1f1fd7de5237749f43d5f8ce0c95e260ef25e27e20cbdffde41bcaf6",
			"059fb9a5bb7d90988188e1a3d9034d6ae4449d97b056c536c1e5b41259ff4f46a9ee5d16ae14ea815dc1749754114f52"},
		{255, letters,
			"d8b5a659e365f704ab114ae7079a8da24fb9997b3052a4a63b37d654652bad6fbdd2b52d737e20a9d5ac3c5831d6afdd32ff737a3dd95269d2793bc2aa850aab",
			"c4f7cca9698ddde4fb9947aebd9da1bda11e9413958d1a5d26f32fbec24bf34cb95f7c7eb84445cbaf84a63d3c705aa6"},
		{255, counting,
			"15025c9d135861ff5a549df0bfd6c398fd126613496d4e97627651e68b7b1f80407f187d7978464f0f78bfeea787600faaebbe991eddb60671cd0ce874f0a744",
			"98d7ac796c4cfb5d98a1c323656a4be8afaaad168e5ee72b6b7a3fa3260461a043e27243120d41584b58f1ae4463121a"},
		{256, noughts,
			"693f95d58383a6162d2aab49eb60395dcc4bb22295120caf3f21e3039003230b287c566a03c7a0ca5accaed2133c700b1cb3f82edf8adcbddc92b4f9fb9910c6",
			"983980373213482dd5c9a5a424db89418e3344c459fa31a356e42eaa28544ca01b9839f6593c9e5d79fd439b5da6ebef"},
		{256, letters,
			"6a9169eb662f136d87374070e8828b3e615a7eca32a89446e9225b02832709be095e635c824a2bb70213ba2ea0ababac0809827843992c851903b7ac0c136699",
			"ee89d91a5f594f72052c561e5c2458280439eaa77cc1352e27893931c6d9ce5d869fb8a024358c460adc1af9f4fe5b4a"},
		{256, counting,
			"1e7b80bc8edc552c8feeb2780e111477e5bc70465fac1a77b29b35980c3f0ce4a036a6c9462036824bd56801e62af7e9feba5c22ed8a5af877bf7de117dcac6d",
			"ffdaebff65ed05cf400f0221c4ccfb4b2104fb6a51f87e40be6c4309386bfdec2892e9179b34632331a59592737db5c5"},
		{257, noughts,
			"bc5bfa962850742a502759b477df26cd53716fbd3864a53f3eb726530b535e8074bc55b5d95a8b516c835564037b6c4a8dc41b561ec5e1a8b8f01d4a0b765ada",
			"90c5083d81f30744c206534dfa7fbc32d948de3090af10859b30ff90a2ecf8b8c6eea6f05c622c0b1944e155362df4b0"},
		{257, letters,
			"17fa1d01865805f9e657c5f5088754d19913eb418577b03cd040b99e5e1354fd31d0d7f24b5474c62b49e3271860859510909685c5811eba23b06e1e3369899d",
			"2b18aee790b03d49f71d4c036bdc8dc3216660f29f92978768f7b7844a36986a400b98186a294af656dc54985dd77e87"},
		{257, counting,
			"b00ad21342988b64ec9a44cd800a8f022a3fbcc018b95b87d35d80134f7e47f6db8e69b2d79301121402b2cdb029e3e592a53128cb54a648e7dd240ac1162cb2",
			"601cf6212265e735247e224c5a4a323acfb6cf0fbf59b11bd4e7bcf3e5cba09489f9d0b1a5db70d3856864b22ecd180a"},
		{1000, noughts,
			"ca3dff61bb23477aa6087b27508264a6f9126ee3a004f53cb8db942ed345f2f2d229b4b59c859220a1cf1913f34248e3803bab650e849a3d9a709edc09ae4a76",
			"aae017d4ae5b6346dd60a19d52130fb55194b6327dd40b89c11efc8222292de81e1a23c9b59f9f58b7f6ad463fa108ca"},
		{1000, letters,
			"67ba5535a46e3f86dbfbed8cbbaf0125c76ed549ff8b0b9e03e0c88cf90fa634fa7b12b47d77b694de488ace8d9a65967dc96df599727d3292a8d9d447709c97",
			"f54480689c6b0b11d0303285d9a81b21a93bca6ba5a1b4472765dca4da45ee328082d469c650cd3b61b16d3266ab8ced"},
		{1000, counting,
			"6cd2eda9bf9c0597129029b0054b81e433f6b8b7b499a75eb705efd74bac194149835b1d1a14c48be696e4d588456d512a22eae7aa1b57be2b56eae7d35e08cb",
			"cfe84a17cb1c1c9d4e7d1b1f5e7aee4ba0fa7ccaafe00c80b20b94ef4250ecae24321940e3e66510732fe32f386e4cc7"},
		{65536, noughts,
			"73e4153936dab198397b74ee9efc26093dda721eaab2f8d92786891153b45b04265a161b169c988edb0db2c53124607b6eaaa816559c5ce54f3dbc9fa6a7a4b2",
			"69fca46943118a952e4f165e122a47f2b7b5336fa8fa1674a26437d183a7e947f15a4a0afabece6d6b28e3c84f60fac2"},
		{65536, letters,
			"3d7f4d370531902d128619b9b9fb424b598b5fb11e92f44654e8bb754deed22c6cd5587482bd5d3bf506b05818848931a1e5627a542ba6aa4b7a27e003355291",
			"c0675b21a7e5017efac4c32d72a372c41cca817204a5cb6f055cbdd3de3a66b8136bf521a6f7ea9cbe86927f45de6d25"},
		{65536, counting,
			"76a59ba2dd234dfb4136e2e33a7e3b344d82f4885a17e3b297eab9a5ded81043292217b8126b1cfba29170dce2780259dc68ab4f382efe91aa4bb404912741f4",
			"250709c010f8b4554564bc9a26da8cde3470e946d3af85ee7c6f672e4de023725881dd1a816ea377dbfdea65d7fb182a"},
		{1000000, noughts,
			"ce044bc9fd43269d5bbc946cbebc3bb711341115cc4abdf2edbc3ff2c57ad4b15deb699bda257fea5aef9c6e55fcf4cf9dc25a8c3ce25f2efe90908379bff7ed",
			"8a1979f9049b3fff15ea3a43a4cf84c634fd14acad1c333fecb72c588b68868b66a994386dc0cd1687b9ee2e34983b81"},
		{1000000, letters,
			"e718483d0ce769644e2e42c7bc15b4638e1f98b13b2044285632a803afa973ebde0ff244877ea60a4cb0432ce577c31beb009c5c2c49aa2e4eadb217ad8cc09b",
			"9d0e1809716474cb086e834e310a4a1ced149e9c00f248527972cec5704c2a5b07b8b3dc38ecc4ebae97ddd87f3d8985"},
		{1000000, counting,
			"91e9424ea9dc44014064a45a69ccaca374ee78eb791f94385b73eff8fd5d74d85136fe6352de077095d6782b7b468a2c300f480c744306dba38d643de9a1a772",
			"fa77bb863ad5ae88a99c5edab5c7cb40cdf430efa81b237ba9defd8112f67eeda7d22791d1bc764457597111e68a2cde"},
	} {
		askSums(t, c.kind(c.n), c.want, c.want384)
	}
}

// P12.1 of all lengths up to four blocks, against hashes reckoned bit by bit.
func TestSumAll(t *testing.T) {
	r := newSlow()
	for n := range 513 {
		b := mixture(n, uint64(n))
		askSums(t, b, hex.EncodeToString(r.sum(b)), hex.EncodeToString(r.sum384(b)))
	}
}

// P12.1: from Start on, what Block makes block by block of the bytes and of what Pad says stands behind them.
func TestSumIsBlocks(t *testing.T) {
	for _, n := range []int{0, 1, 111, 112, 127, 128, 129, 239, 240, 256, 367, 368, 4096, 100003} {
		b := mixture(n, 5)
		long, short := stateOf(t, sha512.Start(false), b), stateOf(t, sha512.Start(true), b)
		askSums(t, b, hex.EncodeToString(wordBytes(long)), hex.EncodeToString(wordBytes(short)[:48]))
	}
}

// P3
func TestSumOfNothing(t *testing.T) {
	for _, b := range [][]byte{nil, {}, counting(128)[:0], counting(128)[128:]} {
		askSums(t, b,
			"cf83e1357eefb8bdf1542850d66d8007d620e4050b5715dc83f4a921d36ce9ce47d0d13c5d85f2b0ff8318d2877eec2f63b931bd47417a81a538327af927da3e",
			"38b060a751ac96384cd9327eb1b1e36a21fdb71114be07434c0cc7bf63f6e1da274edebfe76f65fbd51ad2f14898b95b")
	}
}

// P12.2 of states and blocks whose answers are known.
func TestBlockKnown(t *testing.T) {
	few := [8]uint64{1, 2, 3, 4, 5, 6, 7, 8}
	abc := slices.Concat([]byte("abc\x80"), noughts(123), []byte{24})
	text := append([]byte("abcdefghbcdefghicdefghijdefghijkefghijklfghijklmghijklmnhijklmnoijklmnopjklmnopqklmnopqrlmnopqrsmnopqrstnopqrstu\x80"), noughts(15)...)
	for _, c := range []struct {
		s    [8]uint64
		b    []byte
		want [8]uint64
	}{
		{sha512.Start(false), abc,
			[8]uint64{0xddaf35a193617aba, 0xcc417349ae204131, 0x12e6fa4e89a97ea2, 0x0a9eeee64b55d39a, 0x2192992a274fc1a8, 0x36ba3c23a3feebbd, 0x454d4423643ce80e, 0x2a9ac94fa54ca49f}},
		{sha512.Start(false), text,
			[8]uint64{0x4319017a2b706e69, 0xcd4b05938bae5e89, 0x0186bf199f30aa95, 0x6ef8b71d2f810585, 0xd787d6764b20bda2, 0xa260144709736920, 0x00ec057f37d14b8e, 0x06add5b50e671c72}},
		{sha512.Start(true), abc,
			[8]uint64{0xcb00753f45a35e8b, 0xb5a03d699ac65007, 0x272c32ab0eded163, 0x1a8b605a43ff5bed, 0x8086072ba1e7cc23, 0x58baeca134c825a7, 0xa303edfdf3b89cd7, 0x0c66918ece57ba15}},
		{sha512.Start(true), text,
			[8]uint64{0x2a7f1d895fd58e0b, 0xeaae96d1a673c741, 0x015a2173796c1a88, 0xf6352ca156acaff7, 0xc662113e9ebb4d64, 0x17b61a85e2ccf0a9, 0x37eb9a6660feb519, 0x8f2ebe9a81e6a2c5}},
		{sha512.Start(false), noughts(128),
			[8]uint64{0xcf7881d5774acbe8, 0x533362e0fbc78070, 0x0267639d87460eda, 0x3086cb40e85931b0, 0x717dc95288a023a3, 0x96bab2c14ce0b5e0, 0x6fc4fe04eae33e0b, 0x91f4d80cbd668bee}},
		{sha512.Start(false), bytes.Repeat([]byte{255}, 128),
			[8]uint64{0x735853abed200986, 0xbce240ae39514b66, 0xa29990426e1a8fbd, 0x0ac837a0a52e0ea8, 0xfee8ee0b8cab5205, 0x39a328b4967af0c1, 0x5df8c9151fa46065, 0x7177948afe01e0fd}},
		{sha512.Start(false), counting(128),
			[8]uint64{0x8e03953cd57cd687, 0x9321270afa70c582, 0x7bb5b69be59a8f01, 0x30147e94f2aedf7b, 0xdc01c56c92343ca8, 0xbd837bb7f0208f5a, 0x23e155694516b6f1, 0x47099d491a30b151}},
		{sha512.Start(true), noughts(128),
			[8]uint64{0x443d3f698fb0cf23, 0x80a591795cd757ae, 0x4a9600972c395335, 0x98e763d795c489f7, 0xf765ea4b8193f748, 0x450e49ec00bc838c, 0x871cc1d60f1e68c5, 0x943bbf4c8ea94259}},
		{sha512.Start(true), bytes.Repeat([]byte{255}, 128),
			[8]uint64{0xd9f221d6dc2a277a, 0x5ea5cbdf60c6c62b, 0x4bd18ea94a9959cc, 0x3ba8b0d78090476c, 0xbf788ca595d8b9b2, 0xaa1fbb825c181414, 0xabfba836854969b3, 0xc65610f5d65b0415}},
		{sha512.Start(true), counting(128),
			[8]uint64{0x6f1664d213dd802f, 0x7c47bc50637cf935, 0x92570a2b86958391, 0x48bf38341c6eacd0, 0x5326452ef1cbe64d, 0x90f1ef73bb5ac7d2, 0x803565467d0ddb10, 0xc5ee3fc050f9f0c1}},
		{allWords(0), noughts(128),
			[8]uint64{0xad3a5da838ebf830, 0x5d7142ff85fcbedb, 0x7fa8bf86d6f7ca99, 0x1c6b15b039d70bbf, 0x29f6515289923518, 0x6fd7101d5f2e8f3a, 0x1c358d2476531450, 0x568c0d99d756dc3c}},
		{allWords(0), bytes.Repeat([]byte{255}, 128),
			[8]uint64{0x219d4f41bd434e40, 0x512b43aae687bad0, 0x6d908b18199c964d, 0xef624260330088d9, 0x1b0dcf1b0c4303b7, 0x02aa1197995f197a, 0xe7bae020dc82e7dd, 0xaaeffd33c914a05e}},
		{allWords(0), counting(128),
			[8]uint64{0x855f0f92202592a2, 0xa43696dadaabb3b6, 0x2865bc4dd2133866, 0xb1a6455e01f3156a, 0x68a3ea930f3a2f11, 0x89510915f54da48f, 0xa5629474a6d22775, 0x7b2b69d5d03425fc}},
		{allWords(math.MaxUint64), noughts(128),
			[8]uint64{0xc420bc1e67aa0f3f, 0xb9b820c7f74d2d31, 0x409cacec19aabd40, 0xd32298ad65ff4c35, 0xdf23e00598cde420, 0x0c6693d8ef29c7f9, 0x3b66ff639e5a86b9, 0xbc14a510607ea67d}},
		{allWords(math.MaxUint64), bytes.Repeat([]byte{255}, 128),
			[8]uint64{0x9b0f121696e951ee, 0x41d0b467b741e768, 0x564f41ebb3b72884, 0xf805b40fcacb5bc1, 0x3c379cffcf02a900, 0x9b17a37f809ac554, 0x79c9fd2e1c83b6ab, 0xe948d9e252c02c7a}},
		{allWords(math.MaxUint64), counting(128),
			[8]uint64{0x2931ab0f959b19eb, 0x6d0e6e1ab3443d2b, 0xc6f4b7a33f12817a, 0xfbc3d88f8b9a6fc3, 0x790660ab340d5955, 0xdc6e37eb736b25cf, 0x11d26db14668f7d4, 0x66fcce281406d5bb}},
		{few, noughts(128),
			[8]uint64{0x4fb212457c34e5e8, 0x176829a8d17a717b, 0x4e81f61bc67eefe9, 0x5b354c4c5ba8fb62, 0x9ccfd19f7a2560f6, 0x822bd256fd1bcd75, 0xfb7845d7b37bf009, 0x15d2b28d81e0afbf}},
		{few, bytes.Repeat([]byte{255}, 128),
			[8]uint64{0x2425479fa6e2dc3c, 0x9f631bbb2591841f, 0x3fb8ea2e5ea35abf, 0x9b78e809f846794a, 0x50b307c60f218fe5, 0x0ec2c2a3ab826770, 0x27b841cafab5c22d, 0xf53c0a9249196fe2}},
		{few, counting(128),
			[8]uint64{0xf9ea92b3e6a446a3, 0x91afbde64ae8ffff, 0x307bb07ca8ec5b63, 0x0cc78ddd3aea1c26, 0xcf4f602d1a611477, 0xe0c91f5d5b9bfe88, 0x39c2c7ab593eda0e, 0xf59c98547ec24301}},
	} {
		if got := blockOf(t, c.s, c.b); got != c.want {
			t.Errorf("Block(%x, %x): %x, not %x", c.s, c.b, got, c.want)
		}
	}
}

// P12.2 of spread states and blocks, against answers reckoned bit by bit.
func TestBlockAll(t *testing.T) {
	r := newSlow()
	for seed := range uint64(300) {
		s, b := mixedState(seed), mixture(128, seed+1000)
		if got, want := blockOf(t, s, b), r.block(s, b); got != want {
			t.Errorf("Block(%x, %x): %x, not %x", s, b, got, want)
		}
	}
}

// P12.2 of states and blocks of noughts but for one bit, and of ones but for one nought.
func TestBlockSingleBits(t *testing.T) {
	r := newSlow()
	for _, ground := range []byte{0, 255} {
		whole := uint64(ground) * 0x0101010101010101
		for place := range 1024 {
			s, b := allWords(whole), bytes.Repeat([]byte{ground}, 128)
			b[place/8] ^= 1 << (place % 8)
			if got, want := blockOf(t, s, b), r.block(s, b); got != want {
				t.Errorf("Block(%x, %x): %x, not %x", s, b, got, want)
			}
		}
		for place := range 512 {
			s, b := allWords(whole), bytes.Repeat([]byte{ground}, 128)
			s[place/64] ^= 1 << (place % 64)
			if got, want := blockOf(t, s, b), r.block(s, b); got != want {
				t.Errorf("Block(%x, %x): %x, not %x", s, b, got, want)
			}
		}
	}
}

// P12.2: of more or fewer than 128 bytes, noughts and false, even if there is more behind the list's length.
func TestBlockRefuses(t *testing.T) {
	wrong := [][]byte{nil, {}, counting(256)[:127], counting(128)[:0], counting(128)[1:], counting(128)[:64], counting(1 << 16)}
	for n := range 400 {
		if n != 128 {
			wrong = append(wrong, mixture(n, 3))
		}
	}
	for _, b := range wrong {
		for _, s := range [][8]uint64{sha512.Start(false), sha512.Start(true), allWords(0), allWords(math.MaxUint64), mixedState(1)} {
			if got, is := sha512.Block(s, b); is || got != allWords(0) {
				t.Errorf("Block(%x, %d bytes): %x, %t", s, len(b), got, is)
			}
		}
	}
}

// padded is a byte 128, so many noughts, and a count's digits as bytes.
func padded(t *testing.T, many int, count string) []byte {
	t.Helper()
	last, err := hex.DecodeString(count)
	if err != nil || len(last) != 16 {
		t.Fatalf("no sixteen bytes: %s", count)
	}
	return slices.Concat([]byte{128}, noughts(many), last)
}

// P12.3 in bytes written out.
func TestPadExamples(t *testing.T) {
	for _, c := range []struct {
		n, noughts int
		count      string
	}{
		{math.MinInt, 111, "00000000000000000000000000000000"},
		{-128, 111, "00000000000000000000000000000000"},
		{-5, 111, "00000000000000000000000000000000"},
		{-1, 111, "00000000000000000000000000000000"},
		{0, 111, "00000000000000000000000000000000"},
		{1, 110, "00000000000000000000000000000008"},
		{3, 108, "00000000000000000000000000000018"},
		{31, 80, "000000000000000000000000000000f8"},
		{32, 79, "00000000000000000000000000000100"},
		{110, 1, "00000000000000000000000000000370"},
		{111, 0, "00000000000000000000000000000378"},
		{112, 127, "00000000000000000000000000000380"},
		{113, 126, "00000000000000000000000000000388"},
		{127, 112, "000000000000000000000000000003f8"},
		{128, 111, "00000000000000000000000000000400"},
		{129, 110, "00000000000000000000000000000408"},
		{239, 0, "00000000000000000000000000000778"},
		{240, 127, "00000000000000000000000000000780"},
		{255, 112, "000000000000000000000000000007f8"},
		{256, 111, "00000000000000000000000000000800"},
		{1 << 20, 111, "00000000000000000000000000800000"},
		{1 << 29, 111, "00000000000000000000000100000000"},
		{math.MaxInt32, 112, "000000000000000000000003fffffff8"},
	} {
		if got, want := sha512.Pad(c.n), padded(t, c.noughts, c.count); !bytes.Equal(got, want) {
			t.Errorf("Pad(%d): %x, not %x", c.n, got, want)
		}
	}
}

// P12.3 of great n, also of those whose 8 n has more than 64 bits.
func TestPadOfGreat(t *testing.T) {
	if math.MaxInt>>62 == 0 {
		t.Skip("int has fewer than 64 bits")
	}
	for _, c := range []struct {
		n       uint64
		noughts int
		count   string
	}{
		{math.MaxInt64, 112, "0000000000000003fffffffffffffff8"},
		{math.MaxInt64 - 1, 113, "0000000000000003fffffffffffffff0"},
		{math.MaxInt64 - 15, 127, "0000000000000003ffffffffffffff80"},
		{math.MaxInt64 - 16, 0, "0000000000000003ffffffffffffff78"},
		{math.MaxInt64 - 126, 110, "0000000000000003fffffffffffffc08"},
		{math.MaxInt64 - 127, 111, "0000000000000003fffffffffffffc00"},
		{math.MaxInt64 - 128, 112, "0000000000000003fffffffffffffbf8"},
		{1 << 40, 111, "00000000000000000000080000000000"},
		{1<<60 + 9, 102, "00000000000000008000000000000048"},
		{1<<61 - 1, 112, "0000000000000000fffffffffffffff8"},
		{1 << 61, 111, "00000000000000010000000000000000"},
		{1<<61 + 1, 110, "00000000000000010000000000000008"},
		{1<<62 - 1, 112, "0000000000000001fffffffffffffff8"},
		{1<<62 + 111, 0, "00000000000000020000000000000378"},
		{1<<62 + 112, 127, "00000000000000020000000000000380"},
	} {
		if got, want := sha512.Pad(int(c.n)), padded(t, c.noughts, c.count); !bytes.Equal(got, want) {
			t.Errorf("Pad(%d): %x, not %x", c.n, got, want)
		}
	}
}

// P12.3 of small n, of powers of 2 and what is near them, and of the greatest int and what is near it, against bytes put together one by one.
func TestPadAll(t *testing.T) {
	var list []int
	for n := -260; n < 1000; n++ {
		list = append(list, n, math.MaxInt-260-n, math.MinInt+260+n)
	}
	for n := 1 << 10; n > 0; n *= 2 {
		for near := range 260 {
			list = append(list, n-130+near)
		}
	}
	for _, n := range list {
		got, want := sha512.Pad(n), slowPad(n)
		if !bytes.Equal(got, want) {
			t.Errorf("Pad(%d): %x, not %x", n, got, want)
		}
		if len(got) < 17 || len(got) > 144 || (max(n, 0)%128+len(got))%128 != 0 {
			t.Errorf("Pad(%d) has %d bytes", n, len(got))
		}
	}
}

// P2: the bytes stand in a list with more behind it, of which nothing may be read, written or handed out.
func TestNothingChanged(t *testing.T) {
	for _, n := range []int{0, 1, 111, 112, 127, 128, 129, 239, 240, 256, 1000} {
		room := mixture(n+400, 7)
		before := slices.Clone(room)
		b := room[200 : 200+n]
		sum, short := sumOf(t, b), shortOf(t, b)
		mixed, is := sha512.Block(mixedState(2), b)
		if !bytes.Equal(room, before) {
			t.Errorf("bytes are changed by Sum, Sum384 or Block of %d of them", n)
		}
		alone := slices.Clip(slices.Clone(b))
		other, too := sha512.Block(mixedState(2), alone)
		if !bytes.Equal(sum, sumOf(t, alone)) || !bytes.Equal(short, shortOf(t, alone)) || mixed != other || is != too {
			t.Errorf("Sum, Sum384 or Block of %d bytes hangs on what is beside them", n)
		}
		clear(sum[:cap(sum)])
		clear(short[:cap(short)])
		if !bytes.Equal(room, before) {
			t.Errorf("Sum or Sum384 of %d bytes shares memory with them", n)
		}
	}
}

// P2: the words of the state that the shorter hash leaves out are not to be had behind its length.
func TestShortHidesTheRest(t *testing.T) {
	for n := range 300 {
		b := mixture(n, 9)
		state, short := stateOf(t, sha512.Start(true), b), shortOf(t, b)
		if behind := short[:cap(short)][48:]; bytes.Contains(behind, wordBytes(state)[48:56]) {
			t.Errorf("Sum384 of %d bytes: %x stands behind it", n, behind)
		}
	}
}

// P2, P3: what is answered is kept nowhere.
func TestAnswersAreNew(t *testing.T) {
	b := counting(200)
	ask := func() [][]byte { return [][]byte{sumOf(t, b), shortOf(t, b), sha512.Pad(200)} }
	var want [][]byte
	for _, answer := range ask() {
		want = append(want, slices.Clone(answer))
	}
	for range 3 {
		got := ask()
		for i, answer := range got {
			if !bytes.Equal(answer, want[i]) {
				t.Fatalf("another answer than before: %x, not %x", answer, want[i])
			}
			clear(answer[:cap(answer)])
		}
	}
}

// P3: a call leaves nothing behind that another could tell.
func TestCallsAreAlone(t *testing.T) {
	s, b := mixedState(4), mixture(128, 4)
	want := blockOf(t, s, b)
	sumOf(t, mixture(500, 1))
	shortOf(t, mixture(500, 2))
	sha512.Block(sha512.Start(true), nil)
	sha512.Pad(math.MaxInt)
	if got := blockOf(t, s, b); got != want {
		t.Errorf("Block: %x, but before %x", got, want)
	}
}
