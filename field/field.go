// Package field is layer 1, bit fields of words: see shared/doc/01-field.md.
package field

// wordBits is how many bits a word has.
const wordBits = 64

// Mask returns the word whose least significant width bits are 1.
func Mask(width int) uint64 {
	if width < 1 {
		return 0 // a shift by a negative number would panic
	}
	return uint64(1)<<width - 1 // from 64 on, the shift leaves 0, and 0 - 1 is all bits
}

// Get returns the field of width bits from bit at on; 0 if it is not valid.
func Get(x uint64, at, width int) uint64 {
	if !valid(at, width) {
		return 0
	}
	return x >> at & Mask(width)
}

// Put returns x with v in the field of width bits from bit at on; x itself if it is not valid.
func Put(x uint64, at, width int, v uint64) uint64 {
	if !valid(at, width) {
		return x
	}
	taken := Mask(width) << at
	return x&^taken | v<<at&taken
}

// valid tests width before it subtracts it: 64 less a very small number would overflow.
func valid(at, width int) bool {
	return 0 <= width && width <= wordBits && 0 <= at && at <= wordBits-width
}

// Sign returns the least significant width bits of x, as a signed number, in 64 bits; 0 if width is not from 1 to 64.
func Sign(x uint64, width int) uint64 {
	if !hasNumbers(width) {
		return 0
	}
	above := wordBits - width
	return uint64(int64(x<<above) >> above) // a right shift of a signed number repeats its sign
}

// hasNumbers leaves out width 0, for which there is a field, but no number.
func hasNumbers(width int) bool {
	return 1 <= width && width <= wordBits
}

// Part is a field, and the number that is put into it.
type Part struct {
	At, Width int
	V         uint64
}

// Lay returns the word 0 into which the parts are put: of parts with common bits, the last one has these.
func Lay(l ...Part) uint64 {
	var word uint64
	put := func(p Part) { word = Put(word, p.At, p.Width, p.V) }
	for _, p := range l {
		put(p)
	}
	return word
}

// Fits reports whether x is a number of width bits; false if width is not from 1 to 64.
func Fits(x int64, width int, signed bool) bool {
	if !hasNumbers(width) {
		return false
	}
	if signed {
		return Sign(uint64(x), width) == uint64(x)
	}
	return x >= 0 && uint64(x) <= Mask(width) // a negative number would be a great one as a uint64
}
