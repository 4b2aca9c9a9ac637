package sha256_test

import "math/bits"

// bitWord is a word of 32 bits, the highest ahead, each 0 or 1: with those the chapter's words are reckoned slowly.
type bitWord [32]byte

func toBits(w uint32) bitWord {
	var x bitWord
	for i := range x {
		x[31-i] = byte(w % 2)
		w /= 2
	}
	return x
}

func fromBits(x bitWord) uint32 {
	var w uint32
	for _, bit := range x {
		w = 2*w + uint32(bit)
	}
	return w
}

// turned has each bit so many places lower, the lowest ones at the top.
func turned(x bitWord, by int) bitWord {
	var out bitWord
	for i, bit := range x {
		out[(i+by)%32] = bit
	}
	return out
}

// shifted is turned without the bits that came to the top.
func shifted(x bitWord, by int) bitWord {
	out := turned(x, by)
	for i := range by {
		out[i] = 0
	}
	return out
}

// oddOnes has a 1 where an odd number of words has one.
func oddOnes(words ...bitWord) bitWord {
	var out bitWord
	for i := range out {
		for _, x := range words {
			out[i] = (out[i] + x[i]) % 2
		}
	}
	return out
}

// mostOnes has a 1 where most of the words have one.
func mostOnes(words ...bitWord) bitWord {
	var out bitWord
	for i := range out {
		ones := 0
		for _, x := range words {
			ones += int(x[i])
		}
		if 2*ones > len(words) {
			out[i] = 1
		}
	}
	return out
}

// chosen has a's bits where by has a 1, else b's.
func chosen(by, a, b bitWord) bitWord {
	for i, bit := range by {
		if bit == 1 {
			b[i] = a[i]
		}
	}
	return b
}

// summed adds bit by bit; what goes over the top is lost.
func summed(words ...bitWord) bitWord {
	var out bitWord
	for _, x := range words {
		carry := byte(0)
		for i := 31; i >= 0; i-- {
			ones := out[i] + x[i] + carry
			out[i], carry = ones%2, ones/2
		}
	}
	return out
}

// primes are the first ones.
func primes(many int) []uint64 {
	var list []uint64
next:
	for p := uint64(2); len(list) < many; p++ {
		for _, q := range list {
			if p%q == 0 {
				continue next
			}
		}
		list = append(list, p)
	}
	return list
}

// root32 are the first 32 bits of the fraction of the square root (degree 2) or the cube root (3) of a prime.
func root32(p uint64, degree int) uint32 {
	// The greatest number whose power is not above p 2^(32 degree); never equal, for the root of a prime is no fraction.
	limit := p << (32 * (degree - 2))
	var root uint64
	for bit := uint64(1) << 37; bit > 0; bit /= 2 {
		if upperOfPower(root+bit, degree) < limit {
			root += bit
		}
	}
	return uint32(root)
}

// upperOfPower is the upper one of the two words of a power, or the greatest word if two are too few.
func upperOfPower(x uint64, degree int) uint64 {
	upper, lower := uint64(0), uint64(1)
	for range degree {
		over, next := bits.Mul64(upper, x)
		carried, low := bits.Mul64(lower, x)
		sum, carry := bits.Add64(next, carried, 0)
		if over != 0 || carry != 0 {
			return 1<<64 - 1
		}
		upper, lower = sum, low
	}
	return upper
}

// roots are root32 of the first primes.
func roots(many, degree int) []uint32 {
	var list []uint32
	for _, p := range primes(many) {
		list = append(list, root32(p, degree))
	}
	return list
}

// startState is H of the chapter.
func startState() [8]uint32 {
	return [8]uint32(roots(8, 2))
}

// slow reckons hashes as the chapter says, with its K.
type slow struct {
	k []uint32
}

func newSlow() slow {
	return slow{k: roots(64, 3)}
}

// schedule are w0 to w63 of 64 bytes.
func schedule(b []byte) []bitWord {
	var w []bitWord
	for i := 0; i < 64; i += 4 {
		w = append(w, toBits(uint32(b[i])*1<<24+uint32(b[i+1])*1<<16+uint32(b[i+2])*1<<8+uint32(b[i+3])))
	}
	for t := 16; t < 64; t++ {
		x, y := w[t-15], w[t-2]
		s0 := oddOnes(turned(x, 7), turned(x, 18), shifted(x, 3))
		s1 := oddOnes(turned(y, 17), turned(y, 19), shifted(y, 10))
		w = append(w, summed(w[t-16], s0, w[t-7], s1))
	}
	return w
}

// block is P11.2 of 64 bytes.
func (r slow) block(s [8]uint32, b []byte) [8]uint32 {
	var v [8]bitWord
	for i, w := range s {
		v[i] = toBits(w)
	}
	for t, w := range schedule(b) {
		a, e := v[0], v[4]
		t1 := summed(v[7], oddOnes(turned(e, 6), turned(e, 11), turned(e, 25)), chosen(e, v[5], v[6]), toBits(r.k[t]), w)
		t2 := summed(oddOnes(turned(a, 2), turned(a, 13), turned(a, 22)), mostOnes(a, v[1], v[2]))
		v = [8]bitWord{summed(t1, t2), a, v[1], v[2], summed(v[3], t1), e, v[5], v[6]}
	}
	for i, w := range s {
		s[i] = fromBits(summed(toBits(w), v[i]))
	}
	return s
}

// sum is P11.1.
func (r slow) sum(b []byte) []byte {
	all := append(append([]byte{}, b...), slowPad(len(b))...)
	state := startState()
	for len(all) > 0 {
		state = r.block(state, all[:64])
		all = all[64:]
	}
	var out []byte
	for _, w := range state {
		out = append(out, byte(w>>24), byte(w>>16), byte(w>>8), byte(w))
	}
	return out
}

// slowPad is P11.3, nought by nought, and 8 n bit by bit.
func slowPad(n int) []byte {
	if n < 0 {
		n = 0
	}
	out := []byte{128}
	for (n%64+len(out))%64 != 56 {
		out = append(out, 0)
	}
	// The bits of 8 n are those of n three places higher.
	var count [67]byte
	for i := 63; i >= 0; i-- {
		count[i] = byte(n % 2)
		n /= 2
	}
	for i := 3; i < 67; i += 8 {
		whole := byte(0)
		for _, bit := range count[i : i+8] {
			whole = 2*whole + bit
		}
		out = append(out, whole)
	}
	return out
}
