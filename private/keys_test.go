package private_test

import (
	"math/big"
	"testing"

	"sconce/api"
)

// greatest is the greatest public exponent that may be.
const greatest = 1<<32 - 1

// sample is a key, and whether its halves are primes.
type sample struct {
	what   string
	k      api.Key
	primes bool
}

func sampleOf(t *testing.T, what string, p, q *big.Int, e uint64) sample {
	t.Helper()
	k, is := plainOf(natOf(p), natOf(q), e)
	if !is {
		t.Fatalf("%s: of %x, %x and %d there is no key", what, p, q, e)
	}
	return sample{what, k, p.ProbablyPrime(0) && q.ProbablyPrime(0)}
}

// start is where numbers of just so many bits are looked for: behind three or behind seven quarters, so that a product of one of each has as many bits as both together.
func start(width, eighths int) *big.Int {
	return new(big.Int).Rsh(times(twos(width), small(uint64(eighths))), 3)
}

// ofWidth is a key of primes whose modulus has just so many bits, of which the first half has as many as are asked for.
func ofWidth(t *testing.T, what string, width, first int, e uint64) sample {
	t.Helper()
	p, q := primeFrom(start(first, 6), e), primeFrom(start(width-first, 7), e)
	x := sampleOf(t, what, p, q, e)
	if got := valueOf(x.k.N).BitLen(); got != width {
		t.Fatalf("%s: a modulus of %d bits", what, got)
	}
	return x
}

// smallKeys have moduli of few words: of the least number of bits, of bits that are a multiple of 8, of 64, or of none of both.
func smallKeys(t *testing.T) []sample {
	var list []sample
	exponents := []uint64{3, 65537, greatest}
	for _, e := range exponents {
		list = append(list, ofWidth(t, "of 32 bits", 32, 16, e))
	}
	for i, width := range []int{33, 39, 40, 41, 47, 48, 63, 64, 65, 72, 73, 127, 128, 129, 130, 191, 192, 193, 255, 256, 257} {
		list = append(list, ofWidth(t, "of some bits", width, (width+i%2)/2, exponents[i%3]))
	}
	return list
}

// unlikeKeys have halves that need unlike numbers of words, or of bits, either one the longer.
func unlikeKeys(t *testing.T) []sample {
	list := []sample{
		sampleOf(t, "3 ahead", small(3), primeFrom(twos(31), 3), 3),
		sampleOf(t, "3 behind", primeFrom(twos(31), 5), small(3), 5),
		sampleOf(t, "3 ahead of many words", small(3), primeFrom(twos(300), 65537), 65537),
		sampleOf(t, "3 behind many words", primeFrom(twos(300), 65537), small(3), 65537),
		sampleOf(t, "a word of all its bits ahead", primeFrom(new(big.Int).Sub(twos(64), small(1000)), 3), primeFrom(twos(128), 3), 3),
		sampleOf(t, "a word of all its bits behind", primeFrom(twos(128), 3), primeFrom(new(big.Int).Sub(twos(64), small(1000)), 3), 3),
	}
	for _, widths := range [][2]int{{20, 70}, {64, 65}, {65, 64}, {33, 95}, {95, 33}, {60, 190}, {190, 60}, {64, 193}, {193, 64}, {128, 129}, {129, 128}} {
		list = append(list, ofWidth(t, "of unlike halves", widths[0]+widths[1], widths[0], 65537))
	}
	return list
}

// productKeys have halves that are no primes: what Apply comes to is seldom right then.
func productKeys(t *testing.T) []sample {
	list := []sample{
		// Of 561, a number of Carmichael's, all powers are right.
		sampleOf(t, "a number of Carmichael's", small(561), primeFrom(twos(40), 3), 3),
		sampleOf(t, "of many small primes", small(3*5*7*11*13*17), small(19*23*29*31*37), 65537),
		sampleOf(t, "two squares", small(65521*65521), small(257*257), 65537),
		sampleOf(t, "a power of 3", small(3486784401), primeFrom(twos(20), 7), 7),
	}
	for _, widths := range [][2]int{{16, 17}, {20, 20}, {32, 32}, {33, 40}, {65, 65}, {20, 150}, {150, 20}, {200, 190}} {
		p, q := productFrom(start(widths[0], 6), 65537), productFrom(start(widths[1], 7), 65537)
		for divisor(p, q).Cmp(small(1)) != 0 {
			q = productFrom(sum(q, small(2)), 65537)
		}
		x := sampleOf(t, "no primes", p, q, 65537)
		if x.primes {
			t.Fatal("they are primes")
		}
		list = append(list, x)
	}
	return list
}

// longKeys have moduli of many words.
func longKeys(t *testing.T) []sample {
	return []sample{
		ofWidth(t, "512 bits", 512, 256, 65537),
		ofWidth(t, "513 bits", 513, 256, 3),
		ofWidth(t, "777 bits", 777, 500, greatest),
		sampleOf(t, "1024 bits", less(twos(512), 569), less(twos(512), 629), 65537),
		sampleOf(t, "1128 bits", less(twos(521), 1), less(twos(607), 1), 65537),
		sampleOf(t, "2048 bits", less(twos(1024), 105), less(twos(1024), 179), 65537),
	}
}

// greatKeys have moduli of up to 8192 bits.
func greatKeys(t *testing.T) []sample {
	return []sample{
		sampleOf(t, "4096 bits", less(twos(2048), 1557), less(twos(2048), 2543), 65537),
		sampleOf(t, "8192 bits", less(twos(4096), 2549), less(twos(4096), 8067), 65537),
		sampleOf(t, "4425 bits, of which one half has 2", small(3), less(twos(4423), 1), 65537),
	}
}
