package product

import (
	"numeral/api"
	"numeral/wide"
)

const wordBits = 64

// long is a number of 192 bits, its highest word first.
type long [3]uint64

// times is a product.
func times(a api.U128, b uint64) long {
	top, rest := wide.MulWord(a, b)
	return long{top, rest.Hi, rest.Lo}
}

// plus is a sum. It has room for a product and one more of what was multiplied: that is at most 2^64 times it.
func (l long) plus(a api.U128) long {
	rest, carry := wide.Add(api.U128{Hi: l[1], Lo: l[2]}, a)
	if carry {
		l[0]++
	}
	return long{l[0], rest.Hi, rest.Lo}
}

// head is the word that begins with the number's first bit, how many bits stand behind that word, and whether one of them is 1. The number is 0, or has 128 bits at least, as a power has: so its head lies in the upper two words.
func (l long) head() (uint64, int, bool) {
	upper := api.U128{Hi: l[0], Lo: l[1]}
	lead := wide.Lead(upper)
	upper = wide.Left(upper, lead)
	return upper.Hi, 2*wordBits - lead, upper.Lo != 0 || l[2] != 0
}
