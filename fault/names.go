package fault

import "numeral/api"

// named is an error with its name.
type named struct {
	err  api.Errno
	name string
}

// Name is an error's name.
func Name(e api.Errno) string {
	for _, n := range names() {
		if n.err == e {
			return n.name
		}
	}
	return ""
}

// Find is the error of a name.
func Find(name string) (api.Errno, bool) {
	for _, n := range names() {
		if n.name == name {
			return n.err, true
		}
	}
	return 0, false
}

// names are all of api's errors. Name and Find read the same rows, so that each undoes the other.
func names() []named {
	return []named{
		{api.ErrArg, "arg"},
		{api.ErrLong, "long"},
		{api.ErrSyntax, "syntax"},
		{api.ErrRange, "range"},
		{api.ErrBitSize, "size"},
		{api.ErrWidth, "width"},
		{api.ErrBase, "base"},
		{api.ErrPrecision, "precision"},
		{api.ErrLayout, "layout"},
		{api.ErrZero, "zero"},
		{api.ErrBig, "big"},
		{api.ErrBelow, "below"},
		{api.ErrDigits, "digits"},
		{api.ErrCall, "call"},
		{api.ErrLine, "line"},
	}
}
