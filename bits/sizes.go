package bits

import "numeral/api"

// Widen is a float of size 32 as one of 64.
func Widen(bits uint64) (uint64, error) {
	f, err := Unpack(bits, 32)
	if err != nil {
		return 0, err
	}
	// Nothing is left to refuse: every float of 32 bits is one of 64.
	return double().pack(f)
}

// Narrow is a float of size 64 as the nearest one of 32, and whether it is the same.
func Narrow(bits uint64) (uint64, bool, error) {
	f, to := double().unpack(bits), single()
	if f.Class == api.ClassFine {
		near, same := to.nearest(f.Mant, f.Exp)
		return to.signed(near, f.Neg), same, nil
	}
	near, err := to.pack(f)
	return near, f.Class != api.ClassNaN, err
}
