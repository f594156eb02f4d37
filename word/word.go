// Package word: words: see ../shared/doc/01-word.md.
package word

// signedOf is wide enough that no sum, difference, product or quotient of two of them is lost.
func signedOf(a uint32) int64 { return int64(int32(a)) }

// cut tells the lowest 32 bits, and whether, signed, they are no longer the number that was given.
func cut(n int64) (uint32, bool) {
	w := uint32(n)
	return w, signedOf(w) != n
}

// Add two words; true: of the signed ones it is no word.
func Add(a, b uint32) (uint32, bool) { return cut(signedOf(a) + signedOf(b)) }

// Sub one from another; true: of the signed ones it is no word.
func Sub(a, b uint32) (uint32, bool) { return cut(signedOf(a) - signedOf(b)) }

// Mul two words: the upper and the lower half of the product.
func Mul(a, b uint32, signed bool) (hi, lo uint32) {
	product := uint64(a) * uint64(b)
	if signed {
		product = uint64(signedOf(a) * signedOf(b))
	}
	return uint32(product >> 32), uint32(product)
}

// Div one by another, nearer to 0, and what is left; false: by 0.
func Div(a, b uint32, signed bool) (q, r uint32, ok bool) {
	if b == 0 {
		return 0, 0, false
	}
	if !signed {
		return a / b, a % b, true
	}
	// With 64 bits the least one by -1 needs no case of its own: 2^31, cut, is the least one again.
	x, y := signedOf(a), signedOf(b)
	return uint32(x / y), uint32(x % y), true
}

// Less: is a less than b?
func Less(a, b uint32, signed bool) bool {
	if signed {
		return int32(a) < int32(b)
	}
	return a < b
}

// Shift a word by n modulo 32 bits: '<' up, '>' down with 0, '~' down with its highest bit; another kind: not at all.
func Shift(kind byte, a, n uint32) uint32 {
	n %= 32
	switch kind {
	case '<':
		return a << n
	case '>':
		return a >> n
	case '~':
		return uint32(int32(a) >> n)
	}
	return a
}

// Wide: the lowest bits of a word, as a word; of a number of bits that is none from 1 to 32: the word as it is.
func Wide(v uint32, bits int, signed bool) uint32 {
	if bits < 1 || bits > 32 {
		return v
	}
	ahead := uint32(32 - bits)
	top := Shift('<', v, ahead)
	if signed {
		return Shift('~', top, ahead)
	}
	return Shift('>', top, ahead)
}
