package pss_test

import (
	"bytes"
	"slices"
	"testing"

	"sconce/api"
	"sconce/key"
	"sconce/nat"
	"sconce/private"
	"sconce/pss"
	"sconce/public"
)

// signature is what another program signed "a text" with, its salt having so many bytes.
type signature struct {
	h, salt int
	hex     string
}

// signed are the primes of keys that another program made, with its signatures; their blocks have 1023, 1024 and 1025 bits, the second in one byte fewer than the key.
var signed = []struct {
	bits          int
	first, second string
	list          []signature
}{
	{
		1024,
		"ed88580b83fc5fb020c2773b24e2d68d28bbab7bf79ab4fec2d4799f08a15fd5826b866e538d7a05b9947864def5f2b50b70ca9dd9eb2b0f88c73682509d915d",
		"ed6bc0eca1773d24eef447f433ea7bb1ee20078c18062d3478150372c294224471d243e2355b42b3d090b239e8fd7b8521bb6e6ba2c0d10dfcf5cd5d47903809",
		[]signature{
			{1, 32, "ad9b142d0978531c766ade6b848101aa49bcb36fc58322d3c72da88d1486f0dfb32133318318238d400e78e62856db64ded6ddbfb8ac8cd0c273391b389b710679735102a21a25fcace773544dbeb62f8e488f527a52f40068c433df3403267c716a996aa20397031c91cf7a9806ab94f253390723f6f45167701315f06b94ca"},
			{2, 0, "9a307fbfa0e3b28386c857d237e5092e314bbb69ddfa5afd8f972950618870a85c86a4251d3e689190a374aae19d034f4330d0efc8590bd45f137d4b11704422418bfaa6e25d8cd920e1764ceabb13990dadc756c8adbfe9bd649a0b2164c9062b6ea813df2f0dfab0cb586579c139ca1faa82eccbb78eece6287d2923463d4b"},
			{3, 62, "333a1b433c24ab9f22a30bb348f7d0ab7256a5d5c4e7ea884538be3cea9bb8995cc3caa89828c735c432740afd1e39d07b782843cb6c5447db2eaaf9f747cbe7906ed2220bbd02de5a873d01c278cfb8ca99b615fde882ed8865b697e179a87b6436bd560b96409af2985e0c4085424e13c44f8256d2189096fb3feb1ccda572"},
		},
	},
	{
		1025,
		"018e22b5258ea592e580510dbaf6e7876f009a691c336b0f73d429404ccbdc83f13c2b781a9fe3989df7a953c21f5618445ef19733ec92b17faf571ac74af34907",
		"fdb13519ea47960bc064bcd47a06ab4ba6763f910e291cba27e8e6ecb74e6ba55ec0b4e048b4f05f0efefe0deb3630c8fcda002dcd6824ff340129a556c19911",
		[]signature{
			{1, 94, "00acb721aa92ca1322ba0531e439461042844c4cb53771ac80119f31335660a4138958c6c2a9ba3fd6aac54fd2b345e03f1a8fea7c9805fedee1f97ed5fbeefdec103e2b2c8efcadc47c68eb2372d0c4714c9e0aa14aa054ad0c06d9cc2937f7f9c8ab6cf34015d6ff57122842cc5220a6b35abf6b4147314edb368f34cdea496c"},
			{2, 48, "013d1474b2cc1a33157d0bb8dad5e1d5444401f4d28661a343a22dad295862ce92bc95fc7f7c88a89ee5c218dc5cf4ff31b8d9ff953a0447fac1b7b9e0ace1d8b6109bd5f25fe38e93358538d78fcbd831f25d7f67b3457a886768ec547c06d9ae92f8c53da1e73cc52d1820fe395837face65bdec24803ce37f069db014224663"},
			{3, 0, "00942f8b08412af109146c95b55388e35af57af05d92cd91f3a9c8ad5656d25c212db7fbbf135e1dbd0a06dd6f158bdfe567c78e40a6c2d167040ab68f1009450540be138eebe16fe1b601843e5a190c21997060c6f8fe953c02f455252fb77e5a9a2871d321e21ff7cef472587653e84af44c7e671e4bfcb15a5ae1476c5e9cd8"},
		},
	},
	{
		1026,
		"01cc936c72f5d7914580f020b2e5c88bd978ca40835a4453021bd8833c2a3c5a8726542e82e2c32e8ad915327531c15de6a4985438f85492c5f0ac59bedad52c5b",
		"0190ff35709f35b0a869de0d2bc44da6f31adba21b639eb80249df8250830148e561a235ed1f3651890cd7d72e7c8da8ad184b92867cbf1b5b979a9556fafc95eb",
		[]signature{
			{1, 0, "001fde8d5cb87f53c4a9fa388605a547f44930625c5c8310f3527265825a33b3702795840861f3582f6cae997f3133f51c9c5d0cb0101f03e874fee2b260467e60ca5405b127ac020eed415b8dc47a709a9d0a3f7b45e6ae6599ee3d3090eeb7497d9530a2aeb944bb4a53f6c41abb9cf7bcd21ac492b4574cb47b36f8379e1e98"},
			{2, 79, "02c3646b2f613c0f4aab82e425e63da85f8ae2fa00b72a0463d330e1e9f03475f9cac4ec1a95e3d88ce3c0be9c530caf7e4238de9399ba920c88b2186f29aaf1e9e6060dd849f28f5e8b4fd05dcd0eeec418c0868c37ba77d504d2249a9a9bcd7097aa0824bd16af9bdf5a7d3bc334f2f215dec8af31fd2ecf612ab422ed5fae24"},
			{3, 63, "028de63ad25d21b5225cb291438e0d66f9644a8a0292dbcb72891ade2bd8650168c6bc81c4ac939ab80e9d60dc79222ef3776b84d8a779d85b54e9ff3f8604dab0630c6ee29a107be5af8ab90eb592da21702a3437bf3c63c9423761084f09431af018bc55c2a6d2e535983448bc38acfc020ad35248d5bfb3b77b679b9de39256"},
		},
	},
}

// keyOf is the key of two primes.
func keyOf(t *testing.T, first, second string) api.Key {
	t.Helper()
	p, _ := nat.Of(unhex(first), (len(first)/2+7)/8)
	q, _ := nat.Of(unhex(second), (len(second)/2+7)/8)
	k, e := key.Of(p, q, 65537)
	if e != api.OK {
		t.Fatal(e)
	}
	return k
}

// saltOf are the last bytes of a block's DB.
func saltOf(h int, em []byte, bits, salt int) []byte {
	cut := plainRoom(h, bits) + 1
	db := plainLaid(h, em[:cut], em[cut:len(em)-1])
	return db[len(db)-salt:]
}

// G1: the public power of another program's signature verifies, for one bit fewer than the key has, and the private power of what Encode answers with the same salt is that signature.
func TestSigned(t *testing.T) {
	t.Parallel()
	m := []byte("a text")
	for _, c := range signed {
		k := keyOf(t, c.first, c.second)
		bits := c.bits - 1
		for _, s := range c.list {
			opened, e := public.Apply(k.N, k.E, unhex(s.hex))
			if e != api.OK {
				t.Fatal(e)
			}
			ahead := len(opened) - plainLength(bits)
			em := opened[ahead:]
			if !bytes.Equal(opened[:ahead], make([]byte, ahead)) {
				t.Fatalf("%d bits: %x", c.bits, opened)
			}
			askVerify(t, s.h, m, em, bits, s.salt, true)
			for _, other := range otherLengths(s.salt, plainRoom(s.h, bits)) {
				askVerify(t, s.h, m, em, bits, other, false)
			}
			askVerify(t, s.h, []byte("a text "), em, bits, s.salt, false)
			again, e := pss.Encode(s.h, m, bits, saltOf(s.h, em, bits, s.salt))
			if e != api.OK || !bytes.Equal(again, em) {
				t.Fatalf("%d bits, hash %d: %x, error %d, not %x", c.bits, s.h, again, e, em)
			}
			back, e := private.Plain(k, slices.Concat(make([]byte, ahead), again))
			if e != api.OK || !bytes.Equal(back, unhex(s.hex)) {
				t.Errorf("%d bits, hash %d: %x, error %d, not %s", c.bits, s.h, back, e, s.hex)
			}
		}
	}
}

// G1: of a signature that was changed anywhere the public power doesn't verify.
func TestSignedChanged(t *testing.T) {
	t.Parallel()
	for _, c := range signed {
		k := keyOf(t, c.first, c.second)
		for _, s := range c.list {
			right := unhex(s.hex)
			for place := 1; place < len(right); place += 16 {
				opened, e := public.Apply(k.N, k.E, replaced(right, place, right[place]^1))
				if e != api.OK {
					t.Fatal(e)
				}
				askQuick(t, s.h, []byte("a text"), opened[len(opened)-plainLength(c.bits-1):], c.bits-1, s.salt, false)
			}
		}
	}
}
