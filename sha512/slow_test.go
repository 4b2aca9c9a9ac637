package sha512_test

// bitWord is a word of 64 bits, the highest ahead, each 0 or 1: with those the chapter's words are reckoned slowly.
type bitWord [64]byte

func toBits(w uint64) bitWord {
	var x bitWord
	for i := range x {
		x[63-i] = byte(w % 2)
		w /= 2
	}
	return x
}

func fromBits(x bitWord) uint64 {
	var w uint64
	for _, bit := range x {
		w = 2*w + uint64(bit)
	}
	return w
}

// turned has each bit so many places lower, the lowest ones at the top.
func turned(x bitWord, by int) bitWord {
	var out bitWord
	for i, bit := range x {
		out[(i+by)%64] = bit
	}
	return out
}

// shifted is turned without the bits that came to the top.
func shifted(x bitWord, by int) bitWord {
	out := turned(x, by)
	for i := range by {
		out[i] = 0
	}
	return out
}

// oddOnes has a 1 where an odd number of words has one.
func oddOnes(words ...bitWord) bitWord {
	var out bitWord
	for i := range out {
		for _, x := range words {
			out[i] = (out[i] + x[i]) % 2
		}
	}
	return out
}

// mostOnes has a 1 where most of the words have one.
func mostOnes(words ...bitWord) bitWord {
	var out bitWord
	for i := range out {
		ones := 0
		for _, x := range words {
			ones += int(x[i])
		}
		if 2*ones > len(words) {
			out[i] = 1
		}
	}
	return out
}

// chosen has a's bits where by has a 1, else b's.
func chosen(by, a, b bitWord) bitWord {
	for i, bit := range by {
		if bit == 1 {
			b[i] = a[i]
		}
	}
	return b
}

// summed adds bit by bit; what goes over the top is lost.
func summed(words ...bitWord) bitWord {
	var out bitWord
	for _, x := range words {
		carry := byte(0)
		for i := 63; i >= 0; i-- {
			ones := out[i] + x[i] + carry
			out[i], carry = ones%2, ones/2
		}
	}
	return out
}

// primes are the first ones.
func primes(many int) []uint64 {
	var list []uint64
next:
	for p := uint64(2); len(list) < many; p++ {
		for _, q := range list {
			if p%q == 0 {
				continue next
			}
		}
		list = append(list, p)
	}
	return list
}

// digits are a number's digits to the base of 2^32, the lowest ahead.
type digits [8]uint64

// times is a product that has to have room.
func times(a, b digits) digits {
	var out digits
	for i := range a {
		carry := uint64(0)
		for j := 0; i+j < len(out); j++ {
			whole := out[i+j] + a[i]*b[j] + carry
			out[i+j], carry = whole%(1<<32), whole>>32
		}
	}
	return out
}

// below is whether a is less than b.
func below(a, b digits) bool {
	for i := len(a) - 1; i >= 0; i-- {
		if a[i] != b[i] {
			return a[i] < b[i]
		}
	}
	return false
}

// root64 are the first 64 bits of the fraction of the square root (degree 2) or the cube root (3) of a prime.
func root64(p uint64, degree int) uint64 {
	// The greatest number whose power is not above p 2^(64 degree); never equal, for the root of a prime is no fraction.
	var limit, root digits
	limit[2*degree] = p
	for place := 68; place >= 0; place-- {
		next := root
		next[place/32] += 1 << (place % 32)
		power := next
		for range degree - 1 {
			power = times(power, next)
		}
		if below(power, limit) {
			root = next
		}
	}
	return root[1]<<32 + root[0]
}

// roots are root64 of the first primes.
func roots(many, degree int) []uint64 {
	var list []uint64
	for _, p := range primes(many) {
		list = append(list, root64(p, degree))
	}
	return list
}

// slow reckons hashes as the chapter says, with its K, H and H'.
type slow struct {
	k           []uint64
	long, short [8]uint64
}

func newSlow() slow {
	h := roots(16, 2)
	return slow{k: roots(80, 3), long: [8]uint64(h[:8]), short: [8]uint64(h[8:])}
}

// schedule are w0 to w79 of 128 bytes.
func schedule(b []byte) []bitWord {
	var w []bitWord
	for i := 0; i < 128; i += 8 {
		whole := uint64(0)
		for _, one := range b[i : i+8] {
			whole = 256*whole + uint64(one)
		}
		w = append(w, toBits(whole))
	}
	for t := 16; t < 80; t++ {
		x, y := w[t-15], w[t-2]
		s0 := oddOnes(turned(x, 1), turned(x, 8), shifted(x, 7))
		s1 := oddOnes(turned(y, 19), turned(y, 61), shifted(y, 6))
		w = append(w, summed(w[t-16], s0, w[t-7], s1))
	}
	return w
}

// block is P12.2 of 128 bytes.
func (r slow) block(s [8]uint64, b []byte) [8]uint64 {
	var v [8]bitWord
	for i, w := range s {
		v[i] = toBits(w)
	}
	for t, w := range schedule(b) {
		a, e := v[0], v[4]
		t1 := summed(v[7], oddOnes(turned(e, 14), turned(e, 18), turned(e, 41)), chosen(e, v[5], v[6]), toBits(r.k[t]), w)
		t2 := summed(oddOnes(turned(a, 28), turned(a, 34), turned(a, 39)), mostOnes(a, v[1], v[2]))
		v = [8]bitWord{summed(t1, t2), a, v[1], v[2], summed(v[3], t1), e, v[5], v[6]}
	}
	for i, w := range s {
		s[i] = fromBits(summed(toBits(w), v[i]))
	}
	return s
}

// state is what comes of s by all blocks of b and of what stands behind it.
func (r slow) state(s [8]uint64, b []byte) [8]uint64 {
	all := append(append([]byte{}, b...), slowPad(len(b))...)
	for len(all) > 0 {
		s = r.block(s, all[:128])
		all = all[128:]
	}
	return s
}

// sum and sum384 are P12.1.
func (r slow) sum(b []byte) []byte {
	return wordBytes(r.state(r.long, b))
}

func (r slow) sum384(b []byte) []byte {
	return wordBytes(r.state(r.short, b))[:48]
}

// wordBytes are a state's bytes, the highest of each word ahead.
func wordBytes(s [8]uint64) []byte {
	var out []byte
	for _, w := range s {
		for at := 56; at >= 0; at -= 8 {
			out = append(out, byte(w>>at))
		}
	}
	return out
}

// slowPad is P12.3, nought by nought, and 8 n bit by bit.
func slowPad(n int) []byte {
	if n < 0 {
		n = 0
	}
	out := []byte{128}
	for (n%128+len(out))%128 != 112 {
		out = append(out, 0)
	}
	// The bits of 8 n are those of n three places higher.
	var count [128]byte
	for i := 124; i >= 0; i-- {
		count[i] = byte(n % 2)
		n /= 2
	}
	for i := 0; i < 128; i += 8 {
		whole := byte(0)
		for _, bit := range count[i : i+8] {
			whole = 2*whole + bit
		}
		out = append(out, whole)
	}
	return out
}
