// Package word: words of 32 bits: see doc/01-word.md.
package word

// wordBits is how many bits a word has.
const wordBits = 32

// Sign reads v's lowest bits as two's complement, in 32 bits.
func Sign(v uint32, bits int) uint32 {
	if bits < 1 {
		return 0
	}
	if bits >= wordBits {
		return v
	}
	// The highest of the bits goes to the word's top, so that the way back drags it along.
	unused := wordBits - bits
	return uint32(int32(v<<unused) >> unused)
}

// Clz counts the bits 0 ahead of the highest 1.
func Clz(v uint32) int {
	zeros := wordBits
	for ; v != 0; v >>= 1 {
		zeros--
	}
	return zeros
}

// Clo counts the bits 1 ahead of the highest 0.
func Clo(v uint32) int {
	return Clz(^v)
}

// Mul gives the higher and the lower half of the product.
func Mul(a, b uint32, signed bool) (uint32, uint32) {
	product := uint64(a) * uint64(b)
	if signed {
		product = uint64(wide(a) * wide(b))
	}
	return uint32(product >> wordBits), uint32(product)
}

// Div gives quotient and remainder.
func Div(a, b uint32, signed bool) (uint32, uint32) {
	if b == 0 {
		return 0xffffffff, a
	}
	if !signed {
		return a / b, a % b
	}
	// 64 bits have room for the one quotient that 32 have not: 0x80000000 by 0xffffffff.
	return uint32(wide(a) / wide(b)), uint32(wide(a) % wide(b))
}

// Sar shifts v right by n modulo 32 places, its sign following.
func Sar(v uint32, n int) uint32 {
	// A mask, not %: n may be below 0, and % would keep its sign.
	places := n & (wordBits - 1)
	return uint32(int32(v) >> places)
}

// Over tells whether a + b (a - b) as signed numbers does not go into 32 bits.
func Over(a, b uint32, minus bool) bool {
	sum := wide(a) + wide(b)
	if minus {
		sum = wide(a) - wide(b)
	}
	return sum != int64(int32(sum))
}

// Less tells whether a is below b.
func Less(a, b uint32, signed bool) bool {
	if signed {
		return int32(a) < int32(b)
	}
	return a < b
}

// wide is v as a number with a sign, where sums and products have room.
func wide(v uint32) int64 {
	return int64(int32(v))
}
