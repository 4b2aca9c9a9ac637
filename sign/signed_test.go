package sign_test

import (
	"bytes"
	"testing"

	"sconce/api"
	"sconce/key"
	"sconce/nat"
	"sconce/private"
	"sconce/public"
	"sconce/sign"
)

// The two primes of a key that another program made, and what that program signed "a text" with, with each hash.
const (
	firstPrime  = "f2cb04404d8af82b2ae702906c81260dc5cb213a2e78ebf5a1196a8e2e336d8262c0c93760c9dfdb9fbc862545bd207650a6c844aceeac408bda950a0f2b7d29"
	secondPrime = "e5b1ba3e56df4c45884d93d3e53911de830e3458c8b0749c9ba75178cfdff245165b521dcbf0bcc3a3aa3b6118559877dca72a7e712bc71e6212b9c24c7a9fe5"
	signed256   = "8b7264a400c5fb53205b6b4338dd703bf2cb658fd61c2bbeace97c927dec549dfe19be8da7dd4ef9ebe8104c8acbbb1346cf8baf9a8af976faed909045a396b794a8782114d88f086f0dbae122f9db75e71a8e33584543ecda64bb4f53c68295611a6ce97f1d6d0b20c44d8a3d6aa6021f2c3d6a79b1ec7f44c5015b247d97e9"
	signed384   = "c049e135773c0ea413cb81de110f28d60bf4609a5366be5a2835a0a1914b5899f559ab03fc912a6cf23411c74e4e18bc95efa61e3b26e153574c024856eda0b636159bff866ea7024159dd1470203cf6375e9b20d96cfe3a9aba3c90cef3b3f71bdb31734f1bbe0429bfa22ed34593349de13bfa4bf385389e992acd80bd84e8"
	signed512   = "7a03781c8221a14c8b332af45f36351a0f1e42f16a8055f084bfe5a9135d8ab4234ad9d828b544a7dbf4f6dcace2005338441ba802a560a96de49c5a145a319deadc6b4ea828681ca5419f296ec5675887f0d8dffa68cbf1012e1ac15164a8e3b0083025d9f39492698eda582ed90f8f9e0d849986b4e901bbf957eb98e7793a"
)

// G1: the private power of what Encode answers is another program's signature, whose public power verifies.
func TestSigned(t *testing.T) {
	p, _ := nat.Of(unhex(firstPrime), 8)
	q, _ := nat.Of(unhex(secondPrime), 8)
	k, e := key.Of(p, q, 65537)
	if e != api.OK {
		t.Fatal(e)
	}
	for i, digits := range []string{signed256, signed384, signed512} {
		h := hashes[i]
		em, _ := sign.Encode(h, []byte("a text"), key.Size(k.N))
		signed, e := private.Plain(k, em)
		if e != api.OK || !bytes.Equal(signed, unhex(digits)) {
			t.Errorf("hash %d: %x, error %d, not %s", h, signed, e, digits)
		}
		opened, e := public.Apply(k.N, k.E, unhex(digits))
		if e != api.OK {
			t.Fatal(e)
		}
		askVerify(t, h, []byte("a text"), opened, true)
		askVerify(t, h, []byte("a text "), opened, false)
		for _, place := range []int{1, 20, 127} {
			opened, e := public.Apply(k.N, k.E, replaced(unhex(digits), place, unhex(digits)[place]^1))
			if e != api.OK {
				t.Fatal(e)
			}
			askVerify(t, h, []byte("a text"), opened, false)
		}
	}
}
